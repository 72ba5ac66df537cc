/- Part 3 of a proof: TeM Ky2 PlN. -/
import Derived.DeepKeys4
import Derived.Maps.OwnOps
import Derived.Maps.OwnSet
import Derived.Test.YtjfaiaipojfhgaaGreatR01
import Derived.Test.YtjfaiaipojfhgaaGreatR02
section
namespace Go.Proofs.YtjfaiaipojfhgaaGreat.ter
abbrev Sec := Int × Int × Int
def cr (co:Int) (wh:List Int) (i:Nat):Int:=if i<wh.length∧0≤wh.getD i 0∧wh.getD i 0<co then wh.getD i 0 else -1
theorem cr_cases (co:Int) (wh:List Int) (i:Nat):(cr co wh i = -1∧¬(i<wh.length∧0≤wh.getD i 0∧wh.getD i 0<co))∨(i<wh.length∧cr co wh i=wh.getD i 0∧0≤cr co wh i∧cr co wh i<co):=by
 unfold cr
 by_cases h:i<wh.length∧0≤wh.getD i 0∧wh.getD i 0<co
 ·rw[if_pos h];exact .inr ⟨h.1,rfl,h.2⟩
 ·rw[if_neg h];exact .inl ⟨rfl,h⟩
def mx : List Sec→Int→Int→Int
 | [],_,_=>0
 | x :: L,c,r=>if x.1=c∧x.2.1=r then max x.2.2 (mx L c r) else mx L c r
theorem mx_pos (L:List Sec) (c r:Int):0≤mx L c r:=by
 induction L with
 | nil=>exact Int.le_refl 0
 | cons x L ih=>rw[mx];split <;> omega
theorem mx_ge {L:List Sec} {x:Sec} (h:x ∈ L):x.2.2≤mx L x.1 x.2.1:=by
 induction L with
 | nil=>cases h
 | cons y L ih =>
  rw[mx]
  rcases List.mem_cons.1 h with rfl | h
  ·rw[if_pos ⟨rfl,rfl⟩];omega
  ·have:=ih h
   split <;> omega
theorem mx_is (L:List Sec) (c r:Int):mx L c r=0∨∃ x ∈ L,x.1=c∧x.2.1=r∧x.2.2=mx L c r:=by
 induction L with
 | nil=>exact .inl rfl
 | cons y L ih =>
  rw[mx]
  by_cases h:y.1=c∧y.2.1=r
  ·rw[if_pos h]
   by_cases hm:mx L c r≤y.2.2
   ·exact .inr ⟨y,by simp,h.1,h.2,by omega⟩
   ·have e:max y.2.2 (mx L c r)=mx L c r:=by omega
    rw[e]
    rcases ih with h0 | ⟨x,hx,h1⟩
    ·exact .inl h0
    ·exact .inr ⟨x,by simp[hx],h1⟩
  ·rw[if_neg h]
   rcases ih with h0 | ⟨x,hx,h1⟩
   ·exact .inl h0
   ·exact .inr ⟨x,by simp[hx],h1⟩
theorem mx_snoc (L:List Sec) (x:Sec) (c r:Int):mx (L ++ [x]) c r=if x.1=c∧x.2.1=r then max (mx L c r) x.2.2 else mx L c r:=by
 induction L with
 | nil=>simp only[List.nil_append,mx];split <;> omega
 | cons y L ih =>
  rw[List.cons_append,mx,ih,mx]
  split <;> split <;> omega
theorem mx_mono {L M:List Sec} (h:∀ x ∈ L,x ∈ M) (c r:Int):mx L c r≤mx M c r:=by
 rcases mx_is L c r with e | ⟨x,hx,h1,h2,h3⟩
 ·rw[e];exact mx_pos M c r
 ·rw[←h3,←h1,←h2];exact mx_ge (h x hx)
theorem mx_le {L:List Sec} {m:Int} (hm:0≤m) (h:∀ x ∈ L,x.2.2≤m) (c r:Int):mx L c r≤m:=by
 rcases mx_is L c r with e | ⟨x,hx,_,_,h3⟩
 ·omega
 ·rw[←h3];exact h x hx
theorem mx_none {L:List Sec} {c:Int} (h:∀ x ∈ L,x.1≠c) (r:Int):mx L c r=0:=by
 rcases mx_is L c r with e | ⟨x,hx,h1,_,_⟩
 ·exact e
 ·exact absurd h1 (h x hx)
def enS (c:Int) (l:List Sec):List Sec:=if c = -1 then [] else l.map fun x=>(c,x.2.1,x.2.2)
theorem enS_mem {c:Int} {l:List Sec} {x:Sec}:x ∈ enS c l ↔ c ≠ -1∧x.1=c∧∃ y ∈ l,y.2.1=x.2.1∧y.2.2=x.2.2:=by
 unfold enS
 by_cases h:c = -1
 ·rw[if_pos h];simp[h]
 ·rw[if_neg h,List.mem_map]
  constructor
  ·rintro⟨y,hy,rfl⟩;exact⟨h,rfl,y,hy,rfl,rfl⟩
  ·rintro⟨_,h1,y,hy,h2,h3⟩;exact⟨y,hy,by rw[←h1,h2,h3]⟩
def secsOf (ts:List Tsk) (i:Nat):List Sec:=(ts[i]?.map (·.secs)).getD []
theorem secsOf_some {ts:List Tsk} {i:Nat} {t:Tsk} (h:ts[i]? = some t):secsOf ts i=t.secs:=by unfold secsOf;rw[h];rfl
def fl (co:Int) (wh:List Int) (ts:List Tsk):Nat→List Sec
 | 0=>[]
 | i+1=>fl co wh ts i ++ enS (cr co wh i) (secsOf ts i)
theorem fl_mem {co:Int} {wh:List Int} {ts:List Tsk} {n:Nat} {x:Sec}:x ∈ fl co wh ts n ↔ ∃ i,i<n∧x ∈ enS (cr co wh i) (secsOf ts i):=by
 induction n with
 | zero=>simp[fl]
 | succ n ih =>
  rw[fl,List.mem_append,ih]
  constructor
  ·rintro(⟨i,hi,h⟩ | h)
   ·exact⟨i,by omega,h⟩
   ·exact⟨n,by omega,h⟩
  ·rintro⟨i,hi,h⟩
   by_cases e:i=n
   ·exact .inr (e▸h)
   ·exact .inl ⟨i,by omega,h⟩
theorem fl_core {co:Int} {wh:List Int} {ts:List Tsk} {n:Nat} {x:Sec} (h:x ∈ fl co wh ts n):0≤x.1∧x.1<co:=by
 obtain⟨i,_,h⟩:=fl_mem.1 h
 obtain⟨h1,h2,_⟩:=enS_mem.1 h
 rcases cr_cases co wh i with⟨e,_⟩ | ⟨_,_,h3,h4⟩
 ·exact absurd e h1
 ·rw[h2];exact⟨h3,h4⟩
theorem fl_sec {co:Int} {wh:List Int} {ts:List Tsk} {n:Nat} {x:Sec} (h:x ∈ fl co wh ts n):∃ t ∈ ts,∃ y ∈ t.secs,y.2.1=x.2.1∧y.2.2=x.2.2:=by
 obtain⟨i,_,h⟩:=fl_mem.1 h
 obtain⟨_,_,y,hy,h3⟩:=enS_mem.1 h
 cases ht:ts[i]? with
 | none=>unfold secsOf at hy;rw[ht] at hy;cases hy
 | some t=>rw[secsOf_some ht] at hy;exact⟨t,List.mem_of_getElem? ht,y,hy,h3⟩
def sm (L:List Sec) (own r:Int):Nat→Int
 | 0=>0
 | n+1=>sm L own r n+if 0<mx L n r∧(n:Int)≠own then mx L n r+1 else 0
theorem sm_pos (L:List Sec) (own r:Int) (n:Nat):0≤sm L own r n:=by
 induction n with
 | zero=>exact Int.le_refl 0
 | succ n ih=>rw[sm];split <;> omega
theorem sm_le {L:List Sec} {m:Int} (hm:0≤m) (h:∀ x ∈ L,x.2.2≤m) (own r:Int) (n:Nat):sm L own r n≤(n:Int)*(m+1):=by
 induction n with
 | zero=>simp[sm]
 | succ n ih =>
  rw[sm]
  have:=mx_le hm h n r
  have e:((n+1:Nat):Int)*(m+1)=(n:Int)*(m+1)+(m+1):=by push_cast;rw[Int.add_mul];omega
  rw[e]
  split <;> omega
theorem sm_mono {L M:List Sec} (h:∀ x ∈ L,x ∈ M) (own r:Int) (n:Nat):sm L own r n≤sm M own r n:=by
 induction n with
 | zero=>exact Int.le_refl 0
 | succ n ih =>
  rw[sm,sm]
  have:=mx_mono h n r
  have:=mx_pos L n r
  have:=mx_pos M n r
  split <;> split <;> omega
def F (s:Sys) (wh:List Int):List Sec:=fl s.co wh s.ts s.ts.length
def tsk? (s:Sys) (task:Int):Option Tsk:=if right s=true∧0≤task then s.ts[task.toNat]? else none
def sec? (s:Sys) (task k:Int):Option Sec:=(tsk? s task).bind fun t=>if 0≤k then t.secs[k.toNat]? else none
def longV (s:Sys) (wh:List Int) (c r:Int):Int:=if right s=true then mx (F s wh) c r else 0
def smV (s:Sys) (wh:List Int) (task:Nat) (r:Int):Int:=sm (F s wh) (cr s.co wh task) r s.co.toNat
def waitV (s:Sys) (wh:List Int) (task k:Int):Int:=match sec? s task k with | some x=>smV s wh task.toNat x.2.1 | none=>0
def holdV (s:Sys) (wh:List Int) (task k:Int):Int:=match sec? s task k with | some x=>smV s wh task.toNat x.2.1+x.2.2 | none=>0
def exN (s:Sys) (wh:List Int) (task:Nat) (l:List Sec):Nat→Int
 | 0=>0
 | n+1=>exN s wh task l n+smV s wh task (l.getD n (0,0,0)).2.1
def extraV (s:Sys) (wh:List Int) (task:Int):Int:=match tsk? s task with | some t=>exN s wh task.toNat t.secs t.secs.length | none=>0
theorem vSecs_all {res w:Int}:∀ {i:Nat} {e:Int} {l:List Sec},vSecs res w i e l=none→0≤e→∀ x ∈ l,(0≤x.2.1∧x.2.1<res)∧1≤x.2.2∧x.2.2≤w:=by
 intro i e l
 induction l generalizing i e with
 | nil=>intro _ _ x hx;cases hx
 | cons y l ih =>
  intro h he x hx
  rw[vSecs] at h
  by_cases hv:vSec res w e y=true
  ·rw[if_pos hv] at h
   have hp:e≤y.1∧y.1≤w∧(0≤y.2.1∧y.2.1≤res-1)∧1≤y.2.2∧y.2.2≤w-y.1:=by
    unfold vSec at hv
    simp only[Bool.and_eq_true,wi_true] at hv
    omega
   rcases List.mem_cons.1 hx with rfl | hx
   ·omega
   ·exact ih h (by omega) x hx
  ·rw[if_neg hv] at h;cases h
theorem right_sec {s:Sys} (h:right s=true) {t:Tsk} (ht:t ∈ s.ts) {x:Sec} (hx:x ∈ t.secs):(0≤x.2.1∧x.2.1<s.rs)∧1≤x.2.2∧x.2.2≤1099511627776:=by
 obtain⟨_,h2⟩:=right_parts h
 have h3:=h2 t ht
 unfold vTsk at h3
 simp only[Bool.and_eq_true,Option.isNone_iff_eq_none] at h3
 have h4:=vSecs_all h3.2 (Int.le_refl 0) x hx
 have h5:=h3.1
 unfold vHead at h5
 simp only[Bool.and_eq_true,wi_true,decide_eq_true_eq] at h5
 omega
theorem right_len {s:Sys} (h:right s=true):(1≤s.co∧s.co≤8)∧(0≤s.rs∧s.rs≤8)∧1≤s.ts.length∧s.ts.length≤24∧∀ t ∈ s.ts,t.secs.length≤4:=by
 obtain⟨h1,h2⟩:=right_parts h
 unfold vWhole at h1
 simp only[Bool.and_eq_true,wi_true] at h1
 obtain⟨a1,_,_,_,_,_,_,_,a2,a3⟩:=h1
 refine⟨a1,a2,by omega,by omega,fun t ht=>?_⟩
 have h3:=h2 t ht
 unfold vTsk vHead at h3
 simp only[Bool.and_eq_true,wi_true,decide_eq_true_eq] at h3
 omega
theorem F_le {s:Sys} (h:right s=true) (wh:List Int) {x:Sec} (hx:x ∈ F s wh):1≤x.2.2∧x.2.2≤1099511627776:=by
 obtain⟨t,ht,y,hy,_,e⟩:=fl_sec hx
 have:=right_sec h ht hy
 omega
theorem mxF_le {s:Sys} (h:right s=true) (wh:List Int) (c r:Int):mx (F s wh) c r≤1099511627776:=mx_le (by omega) (fun _ hx=>(F_le h wh hx).2) c r
theorem smV_le {s:Sys} (h:right s=true) (wh:List Int) (task:Nat) (r:Int):0≤smV s wh task r∧smV s wh task r≤8796093022216:=by
 refine⟨sm_pos _ _ _ _,?_⟩
 have h1:=sm_le (m:=1099511627776) (by omega) (fun _ hx=>(F_le h wh hx).2) (cr s.co wh task) r s.co.toNat
 have h2:=(right_len h).1
 unfold smV
 omega
theorem exN_le {s:Sys} (h:right s=true) (wh:List Int) (task:Nat) (l:List Sec) (n:Nat):0≤exN s wh task l n∧exN s wh task l n≤(n:Int)*8796093022216:=by
 induction n with
 | zero=>simp[exN]
 | succ n ih =>
  rw[exN]
  have:=smV_le h wh task (l.getD n (0,0,0)).2.1
  push_cast
  omega
theorem longV_off {s:Sys} {wh:List Int} {c r:Int} (h:c<0∨s.co≤c):longV s wh c r=0:=by
 unfold longV
 split
 ·exact mx_none (fun x hx=>by have:=fl_core hx;omega) r
 ·rfl
end Go.Proofs.YtjfaiaipojfhgaaGreat.ter
end
section
namespace Go.Proofs.YtjfaiaipojfhgaaGreat.ky2
open Go.ChangeShapes Go.WideShapes Go.ChangeAt Go.RowKit
set_option maxRecDepth 100000 in
theorem row : (114:TypeId)<Tryz.prog.types.size:=of_decide_eq_true (by kernel_rfl)
set_option maxRecDepth 100000 in
theorem wide : (match Tryz.prog.underlying 114 with | some (.array _ _) | some (.struct _)=>true | _=>false)=true:=by kernel_rfl
set_option maxRecDepth 100000 in
theorem law : WideMaps.KeyLaw Tryz.prog 114:=deep_law_laid laidOut (m:=2) (by omega) row (by kernel_rfl) wide
set_option maxRecDepth 100000 in
theorem keyed : Maps.Keyed Tryz.prog 114:=Maps.Keyed.of_law law
set_option maxRecDepth 100000 in
theorem deep : Tryz.prog.keyType 114=true:=by kernel_rfl
set_option maxRecDepth 100000 in
theorem sizes : ∃ m,Tryz.prog.types.size=m+1:=⟨Tryz.prog.types.size-1,(Nat.succ_pred_eq_of_pos (Nat.lt_of_le_of_lt (Nat.zero_le _) row)).symm⟩
set_option maxRecDepth 100000 in
theorem cells2 : Tryz.prog.cellsOf 114=2:=by kernel_rfl
set_option maxRecDepth 100000 in
theorem cells1 : Tryz.prog.cellsOf 3=1:=by kernel_rfl
def kp (a b:Int):Lit:=.string (keyBytes [.int .i64 a,.int .i64 b])
set_option maxRecDepth 100000 in
theorem keyOf_two {a b:Int} (ha:(Lit.int .i64 a).wf=true) (hb:(Lit.int .i64 b).wf=true):keyOf Tryz.prog 114 (.agg #[.int .i64 a,.int .i64 b])=some (kp a b):=by
 obtain⟨m,hm⟩:=sizes
 have hf:(Value.agg #[.int .i64 a,.int .i64 b]).formed Tryz.prog 114=true:=by simp[Value.formed,Tryz.underlying114,cells2]
 unfold keyOf
 simp only[Tryz.underlying114]
 rw[if_pos (by simp[deep,hf]),hm]
 unfold Program.keyLits kp
 simp[Tryz.underlying114,Value.cells,cells2,cells1,Program.keyLits,Tryz.underlying3,ha,hb]
set_option maxRecDepth 100000 in
theorem kp_ne {a b c d:Int} (ha:inR a) (hb:inR b) (hc:inR c) (hd:inR d) (h:a≠c∨b≠d):kp a b≠kp c d:=by
 intro e
 have h1:=keyOf_two (wf_of ha) (wf_of hb)
 have h2:=keyOf_two (wf_of hc) (wf_of hd)
 rw[e] at h1
 have:=keyed.inj h1 h2
 simp at this
 rcases h with h | h
 ·exact h this.1
 ·exact h this.2
set_option maxRecDepth 100000 in
theorem kp_key (a b:Int):WideAt.IsKeyLit (kp a b):=trivial
abbrev OM (w:World) (m N:Nat) (D:DataW Unit):Prop:=w.ownsMap Tryz.prog 114 (plainElem Tryz.prog 3) m N D
set_option maxRecDepth 100000 in
theorem OM.but {w w':World} {m N:Nat} {D:DataW Unit} {S:Nat→Prop} (h:OM w m N D) (hb:But S w w') (hs:¬S m):OM w' m N D:=by
 have hl:=World.ownsMap.lt h
 obtain⟨es,clock,h1,h2⟩:=h
 exact⟨es,clock,by rw[hb.block m hl hs];exact h1,h2⟩
set_option maxRecDepth 100000 in
theorem _root_.Go.Proofs.YtjfaiaipojfhgaaGreat.But.turnedK {S:Nat→Prop} {a b c:World} {m:Nat} (h:But S a b) (ht:b.mapTurned c m) (hm:S m):But S a c :=
 h.grown ht.grown (fun k e=>.inl (by cases e;exact hm))
set_option maxRecDepth 100000 in
theorem zero3 (w:World):(zeroValue 3).run Tryz.prog w=.ok (.int .i64 0) w:=by kernel_rfl
def vl (a:Int):DataW Unit:=.lit (.int .i64 a)
set_option maxRecDepth 100000 in
theorem at_eq {D:DataW Unit} {k:Lit} {z:DataW Unit} {c i:Int} (h:D.atKey k z=.lit (.int .i64 c)) (h':∀ z,D.atKey k z=vl i):c=i:=by
 have:=h.symm.trans (h' z)
 unfold vl at this
 cases this;rfl
end Go.Proofs.YtjfaiaipojfhgaaGreat.ky2
end
section
namespace Go.Proofs.YtjfaiaipojfhgaaGreat.pln
open Go.ChangeShapes Go.WideShapes Go.ChangeAt Go.RowKit Go.Deep
set_option maxHeartbeats 1000000 in
theorem numbers_any (A B:Option Addr) (n m c d:Nat) (zs ts:List Int) (w:World) (hz:Rl w A n zs) (ht:Rl w B m ts) :
  Calls Tryz.prog 16 #[.slice A n c,.slice B m d] w fun e w'=>e=.returned (.bool (decide (zs=ts)))∧But No w w':=by
 have hlz:=hz.len
 have hlt:=ht.len
 have hmx:=hz.max
 have hmy:=ht.max
 by_cases hnm:n=m
 ·subst hnm
  have HL:Hid (zs.length=n∧ts.length=n):=⟨hlz,hlt⟩
  have HZ:=Lib.hid hz
  have HT:=Lib.hid ht
  clear hz ht hlz hlt
  go_enter Tryz.func16,Tryz.ntmps16
  go_wp2
  go_loopw [5] (fun i wr=>∃ k:Nat,k≤n∧i=.int .i64 k∧Hid (∀ j,j<k→zs.getD j 0=ts.getD j 0)∧Hid (But No w wr)) (fun i _=>n-(intOf i).toNat)
  case atStart=>exact⟨0,by omega,rfl,fun j hj=>absurd hj (by omega),But.refl _ _⟩
  case round =>
   obtain⟨k,hk,rfl,hall,hbw⟩:=hrel
   by_cases hlt:k<n
   ·obtain⟨b,off,rfl,hb,hc⟩:=(HZ.out.no hbw.out).at_ (by omega)
    obtain⟨b',off',rfl,hb',hc'⟩:=(HT.out.no hbw.out).at_ (by omega)
    have hck:=hc k hlt
    have hck':=hc' k hlt
    clear hc hc'
    have kn':(k:Int)<(n:Int):=by omega
    obtain⟨z,hze⟩:∃ z,z=zs.getD k 0:=⟨_,rfl⟩
    obtain⟨t,hte⟩:∃ t,t=ts.getD k 0:=⟨_,rfl⟩
    rw[←hze] at hck
    rw[←hte] at hck'
    by_cases h1:z=t
    ·have hall':Hid (∀ j,j<k+1→zs.getD j 0=ts.getD j 0):=by
      intro j hj
      by_cases e:j=k
      ·subst e;rw[←hze,←hte];exact h1
      ·exact hall.out j (by omega)
     have h1':(z != t)=false:=by simpa using h1
     clear hze hte h1
     go_wp2_with fail
     go_quiet (fail)
     go_wp2
     go_roundw
     case rel=>exact⟨k+1,by omega,by go_num,hall',hbw.out.drewN _⟩
     case measure=>simp[intOf];omega
    ·have hE:Hid (decide (zs=ts)=false):=list_ne (k:=k) (by rw[HL.out.1];exact hlt) (by rw[←hze,←hte];exact h1)
     have h1':(z != t)=true:=by simpa using h1
     clear hze hte h1
     go_wp2_with fail
     go_quiet (fail)
     go_wp2
     go_ret
     exact⟨retb hE.out.symm,hbw.out.drewN _⟩
   ·have hE:Hid (decide (zs=ts)=true):=list_eq (by rw[HL.out.1,HL.out.2]) (fun j hj=>hall.out j (by have:=HL.out.1;omega))
    go_wp2
    go_ret
    exact⟨retb hE.out.symm,hbw.out⟩
 ·have hE:Hid (decide (zs=ts)=false):=by show _=_;rw[decide_eq_false_iff_not];rintro rfl;omega
  have hne:((n:Int) != (m:Int))=true:=by simp;omega
  clear hz ht hlz hlt
  go_enter Tryz.func16,Tryz.ntmps16
  go_wp2
  all_goals go_ret
  all_goals exact⟨retb hE.out.symm,But.refl _ _⟩
end Go.Proofs.YtjfaiaipojfhgaaGreat.pln
end
