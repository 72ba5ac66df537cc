/- Part 3 of a proof: Ky2. -/
import Derived.DeepKeys4
import Derived.Maps.OwnOps
import Derived.Maps.OwnSet
import Derived.Test.YtikcigjbhohboaaGreatM01
section
namespace Go.Proofs.YtikcigjbhohboaaGreat.ky2
open Go.ChangeShapes Go.WideShapes Go.ChangeAt Go.RowKit
set_option maxRecDepth 100000 in
theorem row : (267:TypeId)<Tryz.prog.types.size:=of_decide_eq_true (by kernel_rfl)
set_option maxRecDepth 100000 in
theorem wide : (match Tryz.prog.underlying 267 with | some (.array _ _) | some (.struct _)=>true | _=>false)=true:=by kernel_rfl
set_option maxRecDepth 100000 in
theorem law : WideMaps.KeyLaw Tryz.prog 267:=deep_law_laid laidOut (m:=2) (by omega) row (by kernel_rfl) wide
set_option maxRecDepth 100000 in
theorem keyed : Maps.Keyed Tryz.prog 267:=Maps.Keyed.of_law law
set_option maxRecDepth 100000 in
theorem deep : Tryz.prog.keyType 267=true:=by kernel_rfl
set_option maxRecDepth 100000 in
theorem sizes : ∃ m,Tryz.prog.types.size=m+1:=⟨Tryz.prog.types.size-1,(Nat.succ_pred_eq_of_pos (Nat.lt_of_le_of_lt (Nat.zero_le _) row)).symm⟩
set_option maxRecDepth 100000 in
theorem cells2 : Tryz.prog.cellsOf 267=2:=by kernel_rfl
set_option maxRecDepth 100000 in
theorem cells1 : Tryz.prog.cellsOf 3=1:=by kernel_rfl
def kp (a b:Int):Lit:=.string (keyBytes [.int .i64 a,.int .i64 b])
set_option maxRecDepth 100000 in
theorem keyOf_two {a b:Int} (ha:(Lit.int .i64 a).wf=true) (hb:(Lit.int .i64 b).wf=true):keyOf Tryz.prog 267 (.agg #[.int .i64 a,.int .i64 b])=some (kp a b):=by
 obtain⟨m,hm⟩:=sizes
 have hf:(Value.agg #[.int .i64 a,.int .i64 b]).formed Tryz.prog 267=true:=by simp[Value.formed,Tryz.underlying267,cells2]
 unfold keyOf
 simp only[Tryz.underlying267]
 rw[if_pos (by simp[deep,hf]),hm]
 unfold Program.keyLits kp
 simp[Tryz.underlying267,Value.cells,cells2,cells1,Program.keyLits,Tryz.underlying3,ha,hb]
set_option maxRecDepth 100000 in
theorem kp_ne {a b c d:Int} (ha:inR a) (hb:inR b) (hc:inR c) (hd:inR d) (h:a≠c∨b≠d):kp a b≠kp c d:=by
 intro e
 have h1:=keyOf_two (wf_of ha) (wf_of hb)
 have h2:=keyOf_two (wf_of hc) (wf_of hd)
 rw[e] at h1
 have:=keyed.inj h1 h2
 simp at this
 rcases h with h | h
 ·exact h this.1
 ·exact h this.2
set_option maxRecDepth 100000 in
theorem kp_key (a b:Int):WideAt.IsKeyLit (kp a b):=trivial
abbrev OM (w:World) (m N:Nat) (D:DataW Unit):Prop:=w.ownsMap Tryz.prog 267 (plainElem Tryz.prog 3) m N D
set_option maxRecDepth 100000 in
theorem OM.but {w w':World} {m N:Nat} {D:DataW Unit} {S:Nat→Prop} (h:OM w m N D) (hb:But S w w') (hs:¬S m):OM w' m N D:=by
 have hl:=World.ownsMap.lt h
 obtain⟨es,clock,h1,h2⟩:=h
 exact⟨es,clock,by rw[hb.block m hl hs];exact h1,h2⟩
set_option maxRecDepth 100000 in
theorem _root_.Go.Proofs.YtikcigjbhohboaaGreat.But.turnedK {S:Nat→Prop} {a b c:World} {m:Nat} (h:But S a b) (ht:b.mapTurned c m) (hm:S m):But S a c :=
 h.grown ht.grown (fun k e=>.inl (by cases e;exact hm))
set_option maxRecDepth 100000 in
theorem zero3 (w:World):(zeroValue 3).run Tryz.prog w=.ok (.int .i64 0) w:=by kernel_rfl
def vl (a:Int):DataW Unit:=.lit (.int .i64 a)
set_option maxRecDepth 100000 in
theorem at_eq {D:DataW Unit} {k:Lit} {z:DataW Unit} {c i:Int} (h:D.atKey k z=.lit (.int .i64 c)) (h':∀ z,D.atKey k z=vl i):c=i:=by
 have:=h.symm.trans (h' z)
 unfold vl at this
 cases this;rfl
end Go.Proofs.YtikcigjbhohboaaGreat.ky2
end
