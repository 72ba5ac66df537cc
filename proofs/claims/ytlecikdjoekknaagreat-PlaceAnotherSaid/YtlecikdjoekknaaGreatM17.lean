/- Part 17 of a proof: PlR10 PlR11. -/
import Derived.Test.YtlecikdjoekknaaGreatM06
import Derived.Test.YtlecikdjoekknaaGreatM14
import Derived.Test.YtlecikdjoekknaaGreatM16
set_option maxRecDepth 100000
set_option maxHeartbeats 16000000
set_option linter.unusedVariables false
set_option linter.unusedSimpArgs false
section
namespace Go.Proofs.YtlecikdjoekknaaGreat.pln
open Go.ChangeShapes Go.WideShapes Go.ChangeAt Go.RowKit Go.Deep val ter
structure Rg (e:TypeId) (sz:Nat) (w wr:World) (v:Value) (n:Nat) (cs:List Value):Prop where
 but:But No w wr
 own:wr.ownsRow 0 e sz v n cs
 new:∀ k,v.ownBlock=some k->w.heap.size<=k
theorem Rg.no {e:TypeId} {sz:Nat} {w wr w2:World} {v:Value} {n:Nat} {cs:List Value} (h:Rg e sz w wr v n cs) (hb:But No wr w2):Rg e sz w w2 v n cs:=⟨h.but.trans hb,owns_but h.own hb (λ _ _ f=>f),h.new⟩
theorem Rg.but2 {e:TypeId} {sz:Nat} {w wr w2:World} {v:Value} {n:Nat} {cs:List Value} {S:Nat->Prop} (h:Rg e sz w wr v n cs) (hb:But S wr w2) (hw:But No w w2) (hs:∀ k,v.ownBlock=some k->¬S k):Rg e sz w w2 v n cs:=⟨hw,owns_but h.own hb hs,h.new⟩
theorem Rg.start (e:TypeId) (sz:Nat) (w:World):Rg e sz w w (.slice none 0 0) 0 []:=⟨But.refl No w,World.ownsRow_nil _ _ _ _,own_none⟩
theorem Rg.app {e:TypeId} {sz:Nat} {w wr w2:World} {v:Value} {n m:Nat} {cs ds:List Value} {A:Option Addr} {c:Nat} (h:Rg e sz w wr v n cs) (ho:w2.ownsRow 0 e sz (.slice A m c) m (cs ++ ds)) (hg:wr.grownBy w2 v.ownBlock)
  (hat:(Value.slice A m c).ownBlock=v.ownBlock\/(Value.slice A m c).ownBlock=some wr.heap.size):Rg e sz w w2 (.slice A m c) m (cs ++ ds) :=
 ⟨h.but.grown hg (λ k e=>.inr (h.new k e)),ho,own_new h.new hat h.but.size⟩
theorem cell_butS {S:Nat->Prop} {w w':World} {p:Addr} {v:Value} (h:w.cell? p=some v) (hb:But S w w') (hs:¬S p.block):w'.cell? p=some v:=by
 have hl:=World.block_lt_of_cell? w p h
 obtain⟨b,o,sp⟩:=p
 have hsp:sp=none:=by simpa using World.cell?_spot h
 subst hsp
 rw[hb.cell hl hs]
 exact h
def wkOf (s:Sys) (R:List (List Pc)) (y:Ap):dem.Wk:=⟨ownV s R y.i y.p,(s.ts.getD y.i ts0).p,y.p.de,y.p.ti⟩
def edfV (s:Sys) (R:List (List Pc)) (Z:List (List Int)) (l:List Ap) (c:Nat):Int:=dem.testV (l.map (wkOf s R)) (blkV s R Z c 0) s.re
theorem wk_one_reads (w:World) (x:dem.Wk) (t:TypeId):Reads (w.alloc (.cells #[.int .i64 x.w,.int .i64 x.p,.int .i64 x.d,.bool x.top] t)) (w.heap.size+1) 4 (some ⟨w.heap.size,0,none⟩) 1 (dem.wkC x) :=
 ⟨rfl,λ _=>⟨⟨w.heap.size,0,none⟩,rfl,by simp,World.news_of_block (cs:=#[.int .i64 x.w,.int .i64 x.p,.int .i64 x.d,.bool x.top]) (t:=t) (fr:=(0,0)) (Blk.new w _ _)⟩⟩
theorem wk_one_cell (x:dem.Wk):∀ u ∈ dem.wkC x,u.oneCell'=true:=by simp[dem.wkC,Value.oneCell']
structure T2 (e:TypeId) (sz:Nat) (w wr:World) (va vb:Value) (na nb:Nat) (ca cb:List Value):Prop where
 a:Rg e sz w wr va na ca
 b:Rg e sz w wr vb nb cb
 ne:∀ k,va.ownBlock=some k->vb.ownBlock≠some k
theorem T2.no {e:TypeId} {sz:Nat} {w wr w2:World} {va vb:Value} {na nb:Nat} {ca cb:List Value} (h:T2 e sz w wr va vb na nb ca cb) (hb:But No wr w2):T2 e sz w w2 va vb na nb ca cb:=⟨h.a.no hb,h.b.no hb,h.ne⟩
theorem T2.start (e:TypeId) (sz:Nat) (w:World):T2 e sz w w (.slice none 0 0) (.slice none 0 0) 0 0 [] []:=⟨Rg.start e sz w,Rg.start e sz w,λ k e=>by simp[Value.ownBlock] at e⟩
theorem T2.appB {e:TypeId} {sz:Nat} {w wr w2:World} {va vb:Value} {na nb m:Nat} {ca cb ds:List Value} {A:Option Addr} {c:Nat} (h:T2 e sz w wr va vb na nb ca cb) (ho:w2.ownsRow 0 e sz (.slice A m c) m (cb ++ ds)) (hg:wr.grownBy w2 vb.ownBlock)
  (hat:(Value.slice A m c).ownBlock=vb.ownBlock\/(Value.slice A m c).ownBlock=some wr.heap.size):T2 e sz w w2 va (.slice A m c) na m ca (cb ++ ds):=by
 have h1:=h.b.app ho hg hat
 refine⟨h.a.but2 (S:=λ z=>vb.ownBlock=some z) ((But.refl _ wr).grown hg (λ k e=>.inl e)) h1.but (λ k e=>h.ne k e),h1,λ k e1 e2=>?_⟩
 rcases hat with g | g
 ·rw[g] at e2;exact h.ne k e1 e2
 ·rw[g] at e2
  have:=(World.ownsRow.lt h.a.own k e1).2
  cases e2
  omega
theorem T2.flip {e:TypeId} {sz:Nat} {w wr:World} {va vb:Value} {na nb:Nat} {ca cb:List Value} (h:T2 e sz w wr va vb na nb ca cb):T2 e sz w wr vb va nb na cb ca:=⟨h.b,h.a,λ k e1 e2=>h.ne k e2 e1⟩
def ldOf (s:Sys) (R:List (List Pc)) (y:Ap):rsp.Ld:=⟨ownV s R y.i y.p,(s.ts.getD y.i ts0).p,(y.k:Int)*(s.la-1)⟩
def abv (pr:Int) (l:List Ap):List Ap:=l.filter λ y=>decide (y.p.pr<pr)
def fixV (s:Sys) (R:List (List Pc)) (Z:List (List Int)) (l:List Ap) (c:Nat) (x:Ap):Int × Int:=rsp.bnP (ownV s R x.i x.p) (blkV s R Z c x.p.pr) s.re ((abv x.p.pr l).map (ldOf s R)) (l.map (ldOf s R)) x.p.de
theorem ld_one_reads (w:World) (x:rsp.Ld) (t:TypeId):Reads (w.alloc (.cells #[.int .i64 x.w,.int .i64 x.p,.int .i64 x.j] t)) (w.heap.size+1) 3 (some ⟨w.heap.size,0,none⟩) 1 (rsp.ldC x) :=
 ⟨rfl,λ _=>⟨⟨w.heap.size,0,none⟩,rfl,by simp,World.news_of_block (cs:=#[.int .i64 x.w,.int .i64 x.p,.int .i64 x.j]) (t:=t) (fr:=(0,0)) (Blk.new w _ _)⟩⟩
theorem ld_one_cell (x:rsp.Ld):∀ u ∈ rsp.ldC x,u.oneCell'=true:=by simp[rsp.ldC,Value.oneCell']
end Go.Proofs.YtlecikdjoekknaaGreat.pln
end
