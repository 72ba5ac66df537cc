/- Part 15 of a proof: PaB. -/
import Derived.DeepKeys4
import Derived.Maps.OwnOps
import Derived.Maps.OwnSet
import Derived.WideKeyArgs
import Derived.Test.YtikcigjbhohboaaGreatM08
section
namespace Go.Proofs.YtikcigjbhohboaaGreat.pln
open Go.ChangeShapes Go.WideShapes Go.ChangeAt Go.RowKit Go.Deep val
theorem _root_.Go.Proofs.YtikcigjbhohboaaGreat.But.andThen' {S:Nat→Prop} {a b c:World} (h:But No a b) (k:But S b c) (hS:∀ i,i<b.heap.size→S i→a.heap.size≤i):But No a c :=
 ⟨k.os.trans h.os,k.tape.trans h.tape,k.output.trans h.output,Nat.le_trans h.size k.size,fun i hi hs=>(k.block i (Nat.lt_of_lt_of_le hi h.size) (fun s=>by have:=hS i (Nat.lt_of_lt_of_le hi h.size) s;omega)).trans (h.block i hi hs)⟩
structure Pt where
 p:Pc
 i:Nat
 k:Nat
 la:Bool
 dn:Int
 ji:Int
def pt0 : Pt:=⟨pc0,0,0,false,0,0⟩
instance : Inhabited Pt:=⟨pt0⟩
abbrev ptA (x:Pt):Array Value:=#[.int .i64 x.p.co,.int .i64 x.p.bu,.int .i64 x.p.de,.int .i64 x.p.pr,.bool x.p.ti,.int .i64 (x.i:Int),.int .i64 (x.k:Int),.bool x.la,.int .i64 x.dn,.int .i64 x.ji]
abbrev ptV (x:Pt):Value:=.agg (ptA x)
def ptC (x:Pt):List Value:=[.int .i64 x.p.co,.int .i64 x.p.bu,.int .i64 x.p.de,.int .i64 x.p.pr,.bool x.p.ti,.int .i64 (x.i:Int),.int .i64 (x.k:Int),.bool x.la,.int .i64 x.dn,.int .i64 x.ji]
def ptD (x:Pt):DataW Unit:=.agg [.lit (.int .i64 x.p.co),.lit (.int .i64 x.p.bu),.lit (.int .i64 x.p.de),.lit (.int .i64 x.p.pr),.lit (.bool x.p.ti),.lit (.int .i64 (x.i:Int)),.lit (.int .i64 (x.k:Int)),.lit (.bool x.la),.lit (.int .i64 x.dn),.lit (.int .i64 x.ji)]
def partR : Value→Option (DataW Unit × List MemPlace)
 | .agg cs=>match cs.toList with
  | [.int .i64 a,.int .i64 b,.int .i64 c,.int .i64 d,.bool e,.int .i64 f,.int .i64 g,.bool h,.int .i64 i,.int .i64 j]=>some (.agg [.lit (.int .i64 a),.lit (.int .i64 b),.lit (.int .i64 c),.lit (.int .i64 d),.lit (.bool e),.lit (.int .i64 f),.lit (.int .i64 g),.lit (.bool h),.lit (.int .i64 i),.lit (.int .i64 j)], [])
  | _=>none
 | _=>none
theorem partR_mk (x:Pt):partR (ptV x)=some (ptD x, []):=rfl
theorem partR_inv {v:Value} {x:Pt} {ps:List MemPlace} (h:partR v=some (ptD x,ps)):v=ptV x:=by
 unfold partR at h
 split at h
 ·rename_i cs
  split at h
  ·rename_i a b c d e f g k i j hc
   simp only[Option.some.injEq,Prod.mk.injEq,ptD,DataW.agg.injEq,List.cons.injEq,DataW.lit.injEq,Lit.int.injEq,Lit.bool.injEq,true_and,and_true] at h
   obtain⟨⟨rfl,rfl,rfl,rfl,rfl,rfl,rfl,rfl,rfl,rfl⟩,_⟩:=h
   have:cs=ptA x:=by
    apply Array.ext'
    exact hc
   rw[this]
  ·cases h
 ·cases h
abbrev keyV (c t:Int):Value:=.agg #[.int .i64 c,.int .i64 t]
theorem rowK : (131:TypeId)<Tryz.prog.types.size:=of_decide_eq_true (by kernel_rfl)
theorem wideK : (match Tryz.prog.underlying 131 with | some (.array _ _) | some (.struct _)=>true | _=>false)=true:=by kernel_rfl
set_option maxRecDepth 100000 in
theorem keyedK : Maps.Keyed Tryz.prog 131:=Maps.Keyed.of_law (deep_law_laid laidOut (m:=2) (by omega) rowK (by kernel_rfl) wideK)
noncomputable def kl (c t:Int):Lit:=(keyOf Tryz.prog 131 (keyV c t)).getD (.bool false)
theorem litsK (d:Nat) {c t:Int} (hc:inR c) (ht:inR t):Tryz.prog.keyLits (d+2) 131 [.int .i64 c,.int .i64 t]=some [.int .i64 c,.int .i64 t]:=by
 have w1:=wf_of hc
 have w2:=wf_of ht
 have u3:Tryz.prog.underlying 3=some (.int .i64):=Tryz.underlying3
 have h2:Tryz.prog.cellsOf 131=2:=by kernel_rfl
 have h3:Tryz.prog.cellsOf 3=1:=by kernel_rfl
 unfold Program.keyLits
 rw[Tryz.underlying131]
 have hr:List.range 2 = [0,1]:=rfl
 simp[h2,Program.keyLits,h3,u3,w1,w2,hr]
theorem kl_is {c t:Int} (hc:inR c) (ht:inR t):keyOf Tryz.prog 131 (keyV c t)=some (kl c t):=by
 have h:∃ l,keyOf Tryz.prog 131 (keyV c t)=some l:=by
  have hk:Tryz.prog.keyType 131=true:=by kernel_rfl
  have h1:1≤Tryz.prog.types.size:=of_decide_eq_true (by kernel_rfl)
  obtain⟨q,hs⟩:∃ q,Tryz.prog.types.size+1=q+2:=⟨Tryz.prog.types.size-1,by omega⟩
  have h2:Tryz.prog.cellsOf 131=2:=by kernel_rfl
  have hf:(keyV c t).formed Tryz.prog 131=true:=by simp[Value.formed,Tryz.underlying131,h2]
  unfold keyOf
  rw[Tryz.underlying131,hs]
  simp only[hk,hf,Value.cells]
  rw[litsK q hc ht]
  exact⟨_,rfl⟩
 obtain⟨l,h⟩:=h
 unfold kl;rw[h];rfl
theorem kl_inj {a b c d:Int} (ha:inR a) (hb:inR b) (hc:inR c) (hd:inR d) (h:kl a b=kl c d):a=c∧b=d:=by
 have:=keyedK.inj (kl_is ha hb) (by rw[h];exact kl_is hc hd)
 simpa using this
set_option maxRecDepth 100000 in
theorem kl_key {c t:Int} (hc:inR c) (ht:inR t):WideAt.IsKeyLit (kl c t):=keyedK.key (kl_is hc ht)
theorem zeroPt (w:World):(zeroValue 130).run Tryz.prog w=.ok (ptV pt0) w:=by kernel_rfl
abbrev OM (w:World) (m N:Nat) (D:DataW Unit):Prop:=w.ownsMap Tryz.prog 131 partR m N D
theorem OM.but {w w':World} {m N:Nat} {D:DataW Unit} {S:Nat→Prop} (h:OM w m N D) (hb:But S w w') (hs:¬S m):OM w' m N D:=by
 have hl:=World.ownsMap.lt h
 obtain⟨es,clock,h1,h2⟩:=h
 exact⟨es,clock,by rw[hb.block m hl hs];exact h1,h2⟩
def MapIs (F:Int→Int→Option Pt) (D:DataW Unit):Prop :=
 ∀ a b,inR a→inR b→Maps.has D (kl a b)=(F a b).isSome∧∀ z,D.atKey (kl a b) z=match F a b with | some n=>ptD n | none=>z
def upF (F:Int→Int→Option Pt) (c t:Int) (x:Pt):Int→Int→Option Pt:=fun a b=>if a=c∧b=t then some x else F a b
set_option maxRecDepth 100000 in
theorem MapIs.put {F:Int→Int→Option Pt} {D:DataW Unit} (h:MapIs F D) (hD:Maps.IsMap D) {c t:Int} (hc:inR c) (ht:inR t) (n:Pt):MapIs (upF F c t n) (D.put (kl c t) (ptD n)):=by
 intro a b ha hb
 unfold upF
 by_cases e:a=c∧b=t
 ·obtain⟨rfl,rfl⟩:=e
  rw[if_pos ⟨rfl,rfl⟩]
  exact⟨Maps.has_put_same hD (kl_key ha hb) _,fun z=>Maps.atKey_put_same hD (kl_key ha hb) _ _⟩
 ·have ne:kl a b≠kl c t:=fun e'=>e (kl_inj ha hb hc ht e')
  rw[if_neg e]
  exact⟨(Maps.has_put_other ne _).trans (h a b ha hb).1,fun z=>(Maps.atKey_put_other ne _ z).trans ((h a b ha hb).2 z)⟩
def ov : Option Pt→Pt | some n=>n | none=>pt0
set_option maxRecDepth 100000 in
theorem look_run {w:World} {m N:Nat} {F:Int→Int→Option Pt} {D:DataW Unit} (ho:OM w m N D) (hm:MapIs F D) {c t:Int} (hc:inR c) (ht:inR t) :
  (Instr.lookup 121 (.map (some m)) (keyV c t) true).run Tryz.prog w=.ok (.tuple #[ptV (ov (F c t)),.bool (F c t).isSome]) w:=by
 obtain⟨v,ps,hr,hv⟩:=ho.look_ok keyedK Tryz.underlying121 (zeroPt w) (zd:=ptD pt0) (zp:=[]) rfl (kl_is hc ht)
 obtain⟨h1,h2⟩:=hm c t hc ht
 rw[hr,h1]
 rw[h2] at hv
 cases e:F c t with
 | none=>rw[e] at hv;rw[partR_inv hv];rfl
 | some n=>rw[e] at hv;rw[partR_inv hv];rfl
set_option maxRecDepth 100000 in
theorem look1_run {w:World} {m N:Nat} {F:Int→Int→Option Pt} {D:DataW Unit} (ho:OM w m N D) (hm:MapIs F D) {c t:Int} (hc:inR c) (ht:inR t) :
  (Instr.lookup 121 (.map (some m)) (keyV c t) false).run Tryz.prog w=.ok (ptV (ov (F c t))) w:=by
 obtain⟨v,ps,hr,hv⟩:=ho.lookup keyedK Tryz.underlying121 (zeroPt w) (zd:=ptD pt0) (zp:=[]) rfl (kl_is hc ht)
 obtain⟨h1,h2⟩:=hm c t hc ht
 rw[hr]
 rw[h2] at hv
 cases e:F c t with
 | none=>rw[e] at hv;rw[partR_inv hv];rfl
 | some n=>rw[e] at hv;rw[partR_inv hv];rfl
def MP (w:World) (m N:Nat) (F:Int→Int→Option Pt):Prop:=∃ D,OM w m N D∧MapIs F D
theorem MP.but {w w':World} {m N:Nat} {F:Int→Int→Option Pt} {S:Nat→Prop} (h:MP w m N F) (hb:But S w w') (hs:¬S m):MP w' m N F:=by
 obtain⟨D,h1,h2⟩:=h
 exact⟨D,h1.but hb hs,h2⟩
theorem MP.no {w w':World} {m N:Nat} {F:Int→Int→Option Pt} (h:MP w m N F) (hb:But No w w'):MP w' m N F:=h.but hb (fun f=>f)
theorem MP.lt {w:World} {m N:Nat} {F:Int→Int→Option Pt} (h:MP w m N F):m<w.heap.size:=by
 obtain⟨D,h1,h2⟩:=h
 exact World.ownsMap.lt h1
set_option maxRecDepth 100000 in
theorem MP.look {w:World} {m N:Nat} {F:Int→Int→Option Pt} (h:MP w m N F) {c t:Int} (hc:inR c) (ht:inR t) :
  (Instr.lookup 121 (.map (some m)) (keyV c t) true).run Tryz.prog w=.ok (.tuple #[ptV (ov (F c t)),.bool (F c t).isSome]) w:=by
 obtain⟨D,h1,h2⟩:=h
 exact look_run h1 h2 hc ht
set_option maxRecDepth 100000 in
theorem MP.look1 {w:World} {m N:Nat} {F:Int→Int→Option Pt} (h:MP w m N F) {c t:Int} (hc:inR c) (ht:inR t) :
  (Instr.lookup 121 (.map (some m)) (keyV c t) false).run Tryz.prog w=.ok (ptV (ov (F c t))) w:=by
 obtain⟨D,h1,h2⟩:=h
 exact look1_run h1 h2 hc ht
theorem MP.ne {w:World} {b m N:Nat} {cur:Array Value} {e:TypeId} {F:Int→Int→Option Pt} (hm:MP w m N F) (h:Blk w b cur e):b≠m:=by
 rintro rfl
 obtain⟨D,⟨es,clock,h1,_⟩,_⟩:=hm
 unfold Blk at h
 rw[h] at h1;cases h1
theorem _root_.Go.Proofs.YtikcigjbhohboaaGreat.But.turnedP {S:Nat→Prop} {a b c:World} {m:Nat} (h:But S a b) (ht:b.mapTurned c m) (hm:S m):But S a c :=
 h.grown ht.grown (fun k e=>.inl (by cases e;exact hm))
end Go.Proofs.YtikcigjbhohboaaGreat.pln
end
