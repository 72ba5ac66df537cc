/- Part 19 of a proof: DeM DeQ DeW DeR4. -/
import Derived.ChangeSame
import Derived.Deep.DeepCutAuto
import Derived.Deep.Fields
import Derived.Deep.Slices
import Derived.OwnWalk
import Derived.SizedLaws
import Derived.Test.YtikcigjbhohboaaGreatM01
import Derived.Test.YtikcigjbhohboaaGreatM12
section
namespace Go.Proofs.YtikcigjbhohboaaGreat.dem
structure Wk where
 w:Int
 p:Int
 d:Int
 top:Bool
def wk0 : Wk:=⟨0,0,0,false⟩
instance : Inhabited Wk:=⟨wk0⟩
def inT (a b:Int):Bool:=decide (a≤b) && decide (b≤1099511627776)
def okW (x:Wk):Bool:=inT 0 x.w && (inT 1 x.p && inT 1 x.d)
def right (l:List Wk) (bl rl:Int):Bool:=decide (l.length≤72) && (inT 0 bl && (inT 0 rl && l.all okW))
def up (n d:Int):Int:=n/d+if 0<n % d then 1 else 0
def fst (t:Int) (x:Wk):Int:=if x.top=true then (up t x.p+1)*x.w else if x.d≤t then ((t-x.d)/x.p+1)*x.w else 0
def trm (rl t:Int) (x:Wk):Int:=fst t x+(up t x.p+2)*rl
def cmt (rl t:Int) (x:Wk):Int:=(up t x.p+1)*x.w+(up t x.p+2)*rl
def sN (bl:Int) (f:Wk→Int) (l:List Wk):Nat→Int
 | 0=>bl
 | i+1=>sN bl f l i+f (l.getD i wk0)
def ov (bl:Int) (f:Wk→Int) (t:Int) (l:List Wk) (i:Nat):Bool:=decide (9223372036854775807<sN bl f l i) || (l.take i).any (fun x=>decide (9223372036854775807<up t x.p+2))
def askO (l:List Wk) (bl rl t:Int):Bool:=ov bl (trm rl t) t l l.length
def askS (l:List Wk) (bl rl t:Int):Int:=sN bl (trm rl t) l l.length
def askE (l:List Wk) (bl rl t:Int):Int:=if right l bl rl=true∧1≤t then (if askO l bl rl t=true then 2 else 0) else 1
def askV (l:List Wk) (bl rl t:Int):Int:=if askE l bl rl t=0 then askS l bl rl t else 0
def comO (l:List Wk) (bl rl n:Int):Bool:=ov bl (cmt rl n) n l l.length
def comS (l:List Wk) (bl rl n:Int):Int:=sN bl (cmt rl n) l l.length
def ldS (rl:Int) (l:List Wk):Int:=sN 0 (fun x=>qar.tm x.w x.p+qar.tm rl x.p) l l.length
def busyGo (l:List Wk) (bl rl:Int):Nat→Int→Int × Int
 | 0,_=>(0,11)
 | k+1,n=>if comO l bl rl n=true then (0,2) else if comS l bl rl n≤n then (n,0) else busyGo l bl rl k (comS l bl rl n)
def busyP (l:List Wk) (bl rl:Int):Int × Int:=if right l bl rl=true then (if 4294967296<ldS rl l then (0,12) else busyGo l bl rl 5000 1) else (0,1)
def lsN (l:List Wk):Nat→Int
 | 0=>0
 | i+1=>if (l.getD i wk0).top=false∧(lsN l i=0∨(l.getD i wk0).d<lsN l i) then (l.getD i wk0).d else lsN l i
def least (l:List Wk):Int:=lsN l l.length
def testGo (l:List Wk) (bl rl ls:Int):Nat→Int→Int
 | 0,_=>11
 | k+1,t=>if t<ls then 0 else if askE l bl rl t≠0 then askE l bl rl t else if t<askV l bl rl t then 12 else if askV l bl rl t<t then testGo l bl rl ls k (askV l bl rl t) else testGo l bl rl ls k (t-1)
def testV (l:List Wk) (bl rl:Int):Int:=if right l bl rl=true then (if least l=0 then 0 else if (busyP l bl rl).2≠0 then (busyP l bl rl).2 else testGo l bl rl (least l) 5000 (busyP l bl rl).1) else 1
end Go.Proofs.YtikcigjbhohboaaGreat.dem
end
section
namespace Go.Proofs.YtikcigjbhohboaaGreat.dem
structure Less (l l':List Wk) (bl bl' rl:Int):Prop where
 right:right l' bl' rl=true
 ask:∀ m,1≤m→askS l' bl' rl m≤askS l bl rl m
 com:∀ m,1≤m→comS l' bl' rl m≤comS l bl rl m
 fac:∀ x ∈ l',∃ y ∈ l,y.p=x.p
 ld:ldS rl l'≤ldS rl l
 least:least l'=0∨(least l≠0∧least l≤least l')
end Go.Proofs.YtikcigjbhohboaaGreat.dem
end
section
namespace Go.Proofs.YtikcigjbhohboaaGreat.dem
open Go.ChangeShapes Go.WideShapes Go.ChangeAt Go.RowKit Go.Deep
section
variable {H:Type} {enc:TypeId × Value→H} {P:Program} {w:World} {base:Nat} {spare:Nat→Bool} {held:Bool}
end
structure RWk (w:World) (A:Option Addr) (n:Nat) (l:List Wk):Prop where
 len:l.length=n
 max:n≤9223372036854775807
 at_:0<n→∃ b off,A=some ⟨b,off,none⟩∧b<w.heap.size∧∀ k x,l[k]? = some x→w.cell? ⟨b,off+k*4,none⟩=some (.int .i64 x.w)∧w.cell? ⟨b,off+k*4+1,none⟩=some (.int .i64 x.p)∧w.cell? ⟨b,off+k*4+2,none⟩=some (.int .i64 x.d)∧w.cell? ⟨b,off+k*4+3,none⟩=some (.bool x.top)
 fit:∀ x ∈ l,inR x.w∧inR x.p∧inR x.d
end Go.Proofs.YtikcigjbhohboaaGreat.dem
end
section
namespace Go.Proofs.YtikcigjbhohboaaGreat.dem
open Go.ChangeShapes Go.WideShapes Go.ChangeAt Go.RowKit Go.Deep
structure Two (w wr:World) (v u:Value) (zs ts:List Int):Prop where
 but:But No w wr
 o1:Ov wr v zs
 o2:Ov wr u ts
 n1:∀ k,v.ownBlock=some k→w.heap.size≤k
 n2:∀ k,u.ownBlock=some k→w.heap.size≤k
 ap:∀ k,v.ownBlock=some k→u.ownBlock≠some k
end Go.Proofs.YtikcigjbhohboaaGreat.dem
end
