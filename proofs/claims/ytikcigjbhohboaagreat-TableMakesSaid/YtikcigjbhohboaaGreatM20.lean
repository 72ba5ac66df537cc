/- Part 20 of a proof: PlR10 PlR11. -/
import Derived.Deep.RegionHeld3
import Derived.StillTailTactics
import Derived.Test.YtikcigjbhohboaaGreatM04
import Derived.Test.YtikcigjbhohboaaGreatM13
import Derived.Test.YtikcigjbhohboaaGreatM18
import Derived.Test.YtikcigjbhohboaaGreatM19
section
namespace Go.Proofs.YtikcigjbhohboaaGreat.pln
open Go.ChangeShapes Go.WideShapes Go.ChangeAt Go.RowKit Go.Deep val ter
structure Rg (e:TypeId) (sz:Nat) (w wr:World) (v:Value) (n:Nat) (cs:List Value):Prop where
 but:But No w wr
 own:wr.ownsRow 0 e sz v n cs
 new:∀ k,v.ownBlock=some k→w.heap.size≤k
theorem Rg.no {e:TypeId} {sz:Nat} {w wr w2:World} {v:Value} {n:Nat} {cs:List Value} (h:Rg e sz w wr v n cs) (hb:But No wr w2):Rg e sz w w2 v n cs:=⟨h.but.trans hb,owns_but h.own hb (fun _ _ f=>f),h.new⟩
theorem Rg.but2 {e:TypeId} {sz:Nat} {w wr w2:World} {v:Value} {n:Nat} {cs:List Value} {S:Nat→Prop} (h:Rg e sz w wr v n cs) (hb:But S wr w2) (hw:But No w w2) (hs:∀ k,v.ownBlock=some k→¬S k):Rg e sz w w2 v n cs:=⟨hw,owns_but h.own hb hs,h.new⟩
theorem Rg.start (e:TypeId) (sz:Nat) (w:World):Rg e sz w w (.slice none 0 0) 0 []:=⟨But.refl No w,World.ownsRow_nil _ _ _ _,own_none⟩
theorem Rg.app {e:TypeId} {sz:Nat} {w wr w2:World} {v:Value} {n m:Nat} {cs ds:List Value} {A:Option Addr} {c:Nat} (h:Rg e sz w wr v n cs) (ho:w2.ownsRow 0 e sz (.slice A m c) m (cs ++ ds)) (hg:wr.grownBy w2 v.ownBlock)
  (hat:(Value.slice A m c).ownBlock=v.ownBlock∨(Value.slice A m c).ownBlock=some wr.heap.size):Rg e sz w w2 (.slice A m c) m (cs ++ ds) :=
 ⟨h.but.grown hg (fun k e=>.inr (h.new k e)),ho,own_new h.new hat h.but.size⟩
theorem cell_butS {S:Nat→Prop} {w w':World} {p:Addr} {v:Value} (h:w.cell? p=some v) (hb:But S w w') (hs:¬S p.block):w'.cell? p=some v:=by
 have hl:=World.block_lt_of_cell? w p h
 obtain⟨b,o,sp⟩:=p
 have hsp:sp=none:=by simpa using World.cell?_spot h
 subst hsp
 rw[hb.cell hl hs]
 exact h
def wkOf (s:Sys) (R:List (List Pc)) (y:Ap):dem.Wk:=⟨ownV s R y.i y.p,(s.ts.getD y.i ts0).p,y.p.de,y.p.ti⟩
def edfV (s:Sys) (R:List (List Pc)) (Z:List (List Int)) (l:List Ap) (c:Nat):Int:=dem.testV (l.map (wkOf s R)) (blkV s R Z c 0) s.re
end Go.Proofs.YtikcigjbhohboaaGreat.pln
end
section
namespace Go.Proofs.YtikcigjbhohboaaGreat.pln
open Go.ChangeShapes Go.WideShapes Go.ChangeAt Go.RowKit Go.Deep val ter
structure T2 (e:TypeId) (sz:Nat) (w wr:World) (va vb:Value) (na nb:Nat) (ca cb:List Value):Prop where
 a:Rg e sz w wr va na ca
 b:Rg e sz w wr vb nb cb
 ne:∀ k,va.ownBlock=some k→vb.ownBlock≠some k
def ldOf (s:Sys) (R:List (List Pc)) (y:Ap):rsp.Ld:=⟨ownV s R y.i y.p,(s.ts.getD y.i ts0).p,(y.k:Int)*(s.la-1)⟩
def abv (pr:Int) (l:List Ap):List Ap:=l.filter fun y=>decide (y.p.pr<pr)
def fixV (s:Sys) (R:List (List Pc)) (Z:List (List Int)) (l:List Ap) (c:Nat) (x:Ap):Int × Int:=rsp.bnP (ownV s R x.i x.p) (blkV s R Z c x.p.pr) s.re ((abv x.p.pr l).map (ldOf s R)) (l.map (ldOf s R)) x.p.de
theorem ld_one_reads (w:World) (x:rsp.Ld) (t:TypeId):Reads (w.alloc (.cells #[.int .i64 x.w,.int .i64 x.p,.int .i64 x.j] t)) (w.heap.size+1) 3 (some ⟨w.heap.size,0,none⟩) 1 (rsp.ldC x) :=
 ⟨rfl,fun _=>⟨⟨w.heap.size,0,none⟩,rfl,by simp,World.news_of_block (cs:=#[.int .i64 x.w,.int .i64 x.p,.int .i64 x.j]) (t:=t) (fr:=(0,0)) (Blk.new w _ _)⟩⟩
theorem ld_one_cell (x:rsp.Ld):∀ u ∈ rsp.ldC x,u.oneCell'=true:=by simp[rsp.ldC,Value.oneCell']
end Go.Proofs.YtikcigjbhohboaaGreat.pln
end
