/- Part 4 of a proof: ReW TbM. -/
import Derived.ChangeSame
import Derived.Deep.Fields
import Derived.Deep.Slices
import Derived.OwnWalk
import Derived.SizedLaws
import Derived.Test.YtikcigjbhohboaaGreatM01
import Derived.Test.YtikcigjbhohboaaGreatM02
section
namespace Go.Proofs.YtikcigjbhohboaaGreat.rsp
open Go.ChangeShapes Go.WideShapes Go.ChangeAt Go.RowKit Go.Deep
section
variable {H:Type} {enc:TypeId × Value→H} {P:Program} {w:World} {base:Nat} {spare:Nat→Bool} {held:Bool}
end
structure RLd (w:World) (A:Option Addr) (n:Nat) (l:List Ld):Prop where
 len:l.length=n
 max:n≤9223372036854775807
 at_:0<n→∃ b off,A=some ⟨b,off,none⟩∧b<w.heap.size∧∀ k x,l[k]? = some x→w.cell? ⟨b,off+k*3,none⟩=some (.int .i64 x.w)∧w.cell? ⟨b,off+k*3+1,none⟩=some (.int .i64 x.p)∧w.cell? ⟨b,off+k*3+2,none⟩=some (.int .i64 x.j)
 fit:∀ x ∈ l,inR x.w∧inR x.p∧inR x.j
theorem RLd.but {w w':World} {A:Option Addr} {n:Nat} {l:List Ld} {S:Nat→Prop} (h:RLd w A n l) (hb:But S w w') (hs:0<n→∀ b off,A=some ⟨b,off,none⟩→¬S b):RLd w' A n l :=
 ⟨h.len,h.max,fun hn=>by
  obtain⟨b,off,e,hl,hc⟩:=h.at_ hn
  have h9:=hs hn b off e
  exact⟨b,off,e,Nat.lt_of_lt_of_le hl hb.size,fun k x hx=>by rw[hb.cell hl h9,hb.cell hl h9,hb.cell hl h9];exact hc k x hx⟩,h.fit⟩
theorem RLd.no {w w':World} {A:Option Addr} {n:Nat} {l:List Ld} (h:RLd w A n l) (hb:But No w w'):RLd w' A n l:=h.but hb (fun _ _ _ _ f=>f)
theorem RLd.at1 {w:World} {A:Option Addr} {n:Nat} {l:List Ld} (h:RLd w A n l) {k:Nat} {x:Ld} (hx:l[k]? = some x) :
  ∃ b off,A=some ⟨b,off,none⟩∧b<w.heap.size∧w.cell? ⟨b,off+k*3,none⟩=some (.int .i64 x.w)∧w.cell? ⟨b,off+k*3+1,none⟩=some (.int .i64 x.p)∧w.cell? ⟨b,off+k*3+2,none⟩=some (.int .i64 x.j):=by
 have hk:k<l.length:=(List.getElem?_eq_some_iff.1 hx).1
 obtain⟨b,off,e,hl,hc⟩:=h.at_ (by rw[←h.len];omega)
 obtain⟨h1,h2,h3⟩:=hc k x hx
 exact⟨b,off,e,hl,h1,h2,h3⟩
def ldC (x:Ld):List Value:=[.int .i64 x.w,.int .i64 x.p,.int .i64 x.j]
end Go.Proofs.YtikcigjbhohboaaGreat.rsp
end
section
namespace Go.Proofs.YtikcigjbhohboaaGreat.tbl
open Go.ChangeShapes Go.WideShapes Go.ChangeAt Go.RowKit Go.Deep pln
deriving instance DecidableEq for Pc
structure En where
 ps:List Pc
 bo:Int
def en0 : En:=⟨[],0⟩
instance : Inhabited En:=⟨en0⟩
structure REn (w:World) (A:Option Addr) (n:Nat) (L:List En):Prop where
 len:L.length=n
 max:n≤9223372036854775807
 at_:0<n→∃ b off,A=some ⟨b,off,none⟩∧b<w.heap.size∧∀ k x,L[k]? = some x→∃ A' c',w.cell? ⟨b,off+k*2,none⟩=some (.slice A' x.ps.length c')∧w.cell? ⟨b,off+k*2+1,none⟩=some (.int .i64 x.bo)∧x.ps.length≤c'∧RPc w A' x.ps.length x.ps
 fit:∀ x ∈ L,inR x.bo
theorem REn.no {w w':World} {A:Option Addr} {n:Nat} {L:List En} (h:REn w A n L) (hb:But No w w'):REn w' A n L :=
 ⟨h.len,h.max,fun hn=>by
  obtain⟨b,off,e,hl,hc⟩:=h.at_ hn
  refine⟨b,off,e,Nat.lt_of_lt_of_le hl hb.size,fun k x hx=>?_⟩
  obtain⟨A',c',h1,h2,h3,h4⟩:=hc k x hx
  exact⟨A',c',by rw[hb.cell hl (fun f=>f)];exact h1,by rw[hb.cell hl (fun f=>f)];exact h2,h3,h4.no hb⟩,h.fit⟩
theorem REn.at1 {w:World} {A:Option Addr} {n:Nat} {L:List En} (h:REn w A n L) {k:Nat} {x:En} (hx:L[k]? = some x) :
  ∃ b off A' c',A=some ⟨b,off,none⟩∧b<w.heap.size∧w.cell? ⟨b,off+k*2,none⟩=some (.slice A' x.ps.length c')∧w.cell? ⟨b,off+k*2+1,none⟩=some (.int .i64 x.bo)∧x.ps.length≤c'∧RPc w A' x.ps.length x.ps:=by
 have hk:k<L.length:=(List.getElem?_eq_some_iff.1 hx).1
 obtain⟨b,off,e,hl,hc⟩:=h.at_ (by rw[←h.len];omega)
 obtain⟨A',c',h1,h2,h3,h4⟩:=hc k x hx
 exact⟨b,off,A',c',e,hl,h1,h2,h3,h4⟩
structure Tb where
 s:Sys
 es:List En
 ce:List (List Int)
def tbV (s:Sys) (A:Option Addr) (n c:Nat) (E:Option Addr) (m d:Nat) (C:Option Addr) (q f:Nat):Value:=.agg #[.int .i64 s.co,.int .i64 s.po,.int .i64 s.pr,.int .i64 s.re,.int .i64 s.sw,.int .i64 s.fi,.int .i64 s.la,.int .i64 s.rs,.slice A n c,.slice E m d,.slice C q f]
def plE (L:List En):List (List Pc):=L.map En.ps
theorem plE_len (L:List En):(plE L).length=L.length:=List.length_map ..
theorem plE_at {L:List En} {k:Nat} {x:En} (h:L[k]? = some x):(plE L)[k]? = some x.ps:=by unfold plE;rw[List.getElem?_map,h];rfl
theorem row_ne {X:Type} {l m:List X} {k:Nat} {x y:X} (hl:l[k]? = some x) (hm:m[k]? = some y) (h:x≠y):l≠m:=by
 rintro rfl;rw[hl] at hm;exact h (Option.some.inj hm)
theorem any_eq {X:Type} {L M:List X} (hl:L.length=M.length) (h:∀ j,j<L.length→L[j]? = M[j]?):L=M:=by
 apply List.ext_getElem? ;intro j
 by_cases hj:j<L.length
 ·exact h j hj
 ·rw[List.getElem?_eq_none (by omega),List.getElem?_eq_none (by omega)]
end Go.Proofs.YtikcigjbhohboaaGreat.tbl
end
