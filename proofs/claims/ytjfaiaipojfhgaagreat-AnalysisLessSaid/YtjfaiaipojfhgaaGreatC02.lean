/- Part 2 of a proof: V0 QaQ QaQ2 TkM. -/
import Derived.Deep.Draws
import Derived.IntWalk
import Derived.Laws.BitsAllLaws
import Derived.RegionTactic
import Derived.Test.YtjfaiaipojfhgaaGreatC01
section
namespace Go.Proofs.YtjfaiaipojfhgaaGreat
open Go.ChangeShapes Go.WideShapes Go.ChangeAt Go.RowKit Go.Deep
theorem info3 : (Tryz.prog.info? 3).map (fun i=>(i.zero,i.size,i.bytes))=some (some (.int .i64 0),1,8):=by kernel_rfl
theorem owns_but {w w':World} {e:TypeId} {sz n:Nat} {v:Value} {xs:List Value} {S:Nat→Prop} (h:w.ownsRow 0 e sz v n xs) (hb:But S w w') (hs:∀ k,v.ownBlock=some k→¬S k):w'.ownsRow 0 e sz v n xs:=by
 have hl:=h.lt
 obtain⟨h1,h2⟩:=h
 refine⟨h1,?_⟩
 rcases h2 with h2 | ⟨g,cap,cur,hv,hg,hh,r⟩
 ·exact .inl h2
 ·refine .inr ⟨g,cap,cur,hv,hg,?_,r⟩
  have hk:v.ownBlock=some g:=by rw[hv];rfl
  rw[hb.block g (hl g hk).2 (hs g hk)];exact hh
structure Rl (w:World) (A:Option Addr) (n:Nat) (zs:List Int):Prop where
 len:zs.length=n
 max:n≤9223372036854775807
 at_:0<n→∃ b off,A=some ⟨b,off,none⟩∧b<w.heap.size∧∀ k,k<n→w.cell? ⟨b,off+k,none⟩=some (.int .i64 (zs.getD k 0))
theorem Rl.no {w w':World} {A:Option Addr} {n:Nat} {zs:List Int} (h:Rl w A n zs) (hb:But No w w'):Rl w' A n zs :=
 ⟨h.len,h.max,fun hn=>by
  obtain⟨b,off,e,hl,hc⟩:=h.at_ hn
  exact⟨b,off,e,Nat.lt_of_lt_of_le hl hb.size,fun k hk=>by rw[hb.cell hl (fun f=>f)];exact hc k hk⟩⟩
def Ov (w:World) (v:Value) (zs:List Int):Prop:=w.ownsRow 0 3 1 v zs.length (zs.map (Value.int .i64))
theorem Ov.nil (w:World):Ov w (.slice none 0 0) []:=World.ownsRow_nil _ _ _ _
theorem Ov.but {w w':World} {v:Value} {zs:List Int} {S:Nat→Prop} (h:Ov w v zs) (hb:But S w w') (hs:∀ k,v.ownBlock=some k→¬S k):Ov w' v zs:=owns_but h hb hs
theorem Ov.slice {w:World} {v:Value} {zs:List Int} (h:Ov w v zs):∃ A c,v=.slice A zs.length c∧zs.length≤c:=by
 obtain⟨h1,h2⟩:=h
 rcases h2 with⟨h2,e⟩ | ⟨g,cap,cur,hv,_,_,hc,_⟩
 ·exact⟨none,0,by rw[e];exact h2,by omega⟩
 ·exact⟨_,_,hv,hc⟩
theorem Ov.rl {w:World} {A:Option Addr} {n c:Nat} {zs:List Int} (h:Ov w (.slice A n c) zs) (hm:zs.length≤100000):Rl w A n zs∧n=zs.length:=by
 obtain⟨h1,h2⟩:=h
 rcases h2 with⟨h2,e⟩ | ⟨g,cap,cur,hv,_,hh,hc,_,hs,ht⟩
 ·cases h2
  exact⟨⟨e,by omega,fun h=>absurd h (by omega)⟩,e.symm⟩
 ·cases hv
  refine⟨⟨rfl,by omega,fun hn=>⟨g,0,rfl,Blk.lt hh,fun k hk=>?_⟩⟩,rfl⟩
  rw[Nat.zero_add]
  refine Blk.cell hh ?_
  have e:(cur.toList.take (zs.length*1))[k]? = some (.int .i64 (zs.getD k 0)):=by
   rw[ht];simp[hk]
  rw[List.getElem?_take,if_pos (by omega)] at e
  simpa using e
theorem Ov.app {w0 w w2:World} {v:Value} {zs:List Int} {x:Int} {g cap:Nat} (hb:But No w0 w) (hn:∀ k,v.ownBlock=some k→w0.heap.size≤k)
  (ho:w2.ownsRow 0 3 1 (.slice (some ⟨g,0,none⟩) (zs.length+1) cap) (zs.length+1) (zs.map (Value.int .i64) ++ [.int .i64 x])) (hg:(w.alloc (.cells #[.int .i64 x] 3)).grownBy w2 v.ownBlock) (hat:v.ownBlock=some g∨g=w.heap.size+1) :
  Ov w2 (.slice (some ⟨g,0,none⟩) (zs.length+1) cap) (zs ++ [x])∧But No w0 w2∧∀ k,(Value.slice (some ⟨g,0,none⟩) (zs.length+1) cap).ownBlock=some k→w0.heap.size≤k:=by
 refine⟨?_,(hb.alloc _).grown hg (fun k e=>.inr (hn k e)),fun k e=>?_⟩
 ·unfold Ov;rw[List.length_append,List.map_append];exact ho
 ·have e':k=g:=by simpa [Value.ownBlock] using e.symm
  have:=hb.size
  rcases hat with h | h
  ·rw[e'];exact hn g h
  ·omega
theorem retb {a b:Bool} (h:a=b):Ending.returned (.bool a)=.returned (.bool b):=by rw[h]
theorem block_of_add (a:Addr) (n:Nat):(a.add n).block=a.block:=by unfold Addr.add;split <;> rfl
def Reads (w:World) (B size:Nat) (A:Option Addr) (n:Nat) (xs:List Value):Prop :=
 xs.length=n*size∧(0<n→∃ ad,A=some ad∧ad.block<B∧∀ j u,xs[j]? = some u→w.cell? (ad.add j)=some u)
section
variable {w w':World} {B B' size n:Nat} {A:Option Addr} {xs:List Value}
theorem Reads.at_ {k:Nat} (h:Reads w B 1 A n xs) (hk:k<n):∃ ad u,A=some ad∧ad.block<B∧xs[k]? = some u∧w.cell? (ad.add k)=some u:=by
 obtain⟨ad,e,hb,hc⟩:=h.2 (by omega)
 have hl:k<xs.length:=by have:=h.1;omega
 exact⟨ad,xs[k],e,hb,List.getElem?_eq_getElem hl,hc k _ (List.getElem?_eq_getElem hl)⟩
theorem Reads.keep (h:Reads w B size A n xs) (hk:∀ p:Addr,p.block<B→w'.cell? p=w.cell? p):Reads w' B size A n xs :=
 ⟨h.1,fun hn=>by
  obtain⟨ad,e,hb,hc⟩:=h.2 hn
  exact⟨ad,e,hb,fun j u hu=>(hk _ (by rw[block_of_add];exact hb)).trans (hc j u hu)⟩⟩
theorem Reads.more (h:Reads w B size A n xs) (hB:B≤B'):Reads w B' size A n xs :=
 ⟨h.1,fun hn=>by
  obtain⟨ad,e,hb,hc⟩:=h.2 hn
  exact⟨ad,e,by omega,hc⟩⟩
theorem Reads.below (h:Reads w B size A n xs) (hb:Below B w w'):Reads w' B size A n xs:=h.keep fun _ hp=>hb.cell hp
theorem Reads.drew (h:Reads w B size A n xs):Reads w.drew B size A n xs:=h
theorem Reads.drewN (h:Reads w B size A n xs) (k:Nat):Reads (w.drewN k) B size A n xs:=h
theorem Reads.alloc (h:Reads w B size A n xs) (hB:B≤w.heap.size) (o:Obj):Reads (w.alloc o) B size A n xs:=h.keep fun p hp=>World.cell?_alloc_lt w o p (by omega)
theorem Reads.setCell (h:Reads w B size A n xs) {p:Addr} (hB:B≤p.block) (u:Value):Reads (w.setCell p u) B size A n xs :=
 h.keep fun q hq=>World.cell?_setCell_other w p q u (fun e=>by subst e;omega)
theorem Reads.grown (h:Reads w B size A n xs) {row:Option Nat} (hg:w.grownBy w' row) (hB:B≤w.heap.size) (hr:∀ g,row=some g→B≤g):Reads w' B size A n xs :=
 h.keep fun p hp=>World.cell?_of_block (hg.block p.block (by omega) (fun e=>by have:=hr _ e.symm;omega))
end
section
variable {P:Program} (w:World)
theorem run_append_of_nil (base:Nat) (t ty e:TypeId) (i:TypeInfo) (size:Nat) (ht:P.underlying t=some (.slice e)) (hi:P.info? e=some i)
  (v:Value) (n:Nat) (xs:List Value) (hown:w.ownsRow base e size v n xs) (c:Nat):(Builtin.append_ #[t,t] ty #[v,.slice none 0 c]).run P w=.ok v w:=by
 rcases hown.2 with⟨rfl,rfl⟩ | ⟨g,cap,cur,rfl,_,_,hnc,_⟩
 ·simp[Builtin.append_,run_underlying ht,sizeOf,typeInfo,hi,Builtin.lenOf,Builtin.firstCells]
 ·simp[Builtin.append_,run_underlying ht,sizeOf,typeInfo,hi,Builtin.lenOf,Builtin.firstCells,hnc,storeCells]
theorem run_append_any (base:Nat) (t ty e:TypeId) (i:TypeInfo) (z:Value) (size bytes:Nat) (ht:P.underlying t=some (.slice e)) (hi:P.info? e=some i) (hz:i.zero=some z)
  (hsize:i.size=size) (hby:i.bytes=bytes) (hzs:z.cells.size=size) (hsz:0<size)
  (v:Value) (n:Nat) (xs:List Value) (hown:w.ownsRow base e size v n xs)
  (B:Nat) (A:Option Addr) (m c:Nat) (news:List Value) (hr:Reads w B size A m news) (h1:∀ u ∈ news,u.oneCell'=true)
  (h63:n+m≤maxLen) (hbytes:(n+m)*bytes≤140737488355328) (hbase:base≤w.heap.size) :
  ∃ v' w',(Builtin.append_ #[t,t] ty #[v,.slice A m c]).run P w=.ok v' w'∧w'.ownsRow base e size v' (n+m) (xs ++ news)∧w.grownBy w' v.ownBlock ∧
   (v'.ownBlock=v.ownBlock∨v'.ownBlock=some w.heap.size):=by
 rcases A with _ | ad
 ·have hm:m=0:=by
   rcases Nat.eq_zero_or_pos m with h0 | h0
   ·exact h0
   ·obtain⟨ad,h,_⟩:=hr.2 h0
    cases h
  subst hm
  have hn:news = []:=List.eq_nil_of_length_eq_zero (by simpa using hr.1)
  subst hn
  exact⟨v,w,run_append_of_nil w base t ty e i size ht hi v n xs hown c,by simpa using hown,World.grownBy.refl w _,.inl rfl⟩
 ·have hcells:∀ j u,news[j]? = some u→w.cell? (ad.add j)=some u:=by
   intro j u hu
   rcases Nat.eq_zero_or_pos m with h0 | h0
   ·subst h0
    have hn:news = []:=List.eq_nil_of_length_eq_zero (by simpa using hr.1)
    subst hn
    simp at hu
   ·obtain⟨ad',h,_,hc⟩:=hr.2 h0
    injection h with h
    subst h
    exact hc j u hu
  obtain⟨v',w',hrun,h2,h3,_,h5⟩:=run_append_own_at (P:=P) w base t ty e i z size bytes ht hi hz hsize hby hzs hsz v n xs hown ad m c news hr.1 hcells h1 h63 hbytes hbase
  exact⟨v',w',hrun,h2,h3,h5⟩
theorem wp_append_any {o:Oper} {a:Act} {K:Act→World→Prop} {Q:Exit→Act→World→Prop} (s x:Operand) (t:TypeId)
  (ho:o.op=.call { callee:=.builtin .append,args:=#[s,x],argTypes:=#[t,t] })
  (base:Nat) (e:TypeId) (i:TypeInfo) (z:Value) (size bytes:Nat) (ht:P.underlying t=some (.slice e)) (hi:P.info? e=some i) (hz:i.zero=some z)
  (hsize:i.size=size) (hby:i.bytes=bytes) (hzs:z.cells.size=size) (hsz:0<size)
  (v:Value) (n:Nat) (xs:List Value) (hs:a.eval s=v) (hown:w.ownsRow base e size v n xs)
  (B:Nat) (A:Option Addr) (m c:Nat) (news:List Value) (hx:a.eval x=.slice A m c) (hr:Reads w B size A m news) (h1:∀ u ∈ news,u.oneCell'=true)
  (h63:n+m≤maxLen) (hbytes:(n+m)*bytes≤140737488355328) (hbase:base≤w.heap.size)
  (h:∀ v' w',w'.ownsRow base e size v' (n+m) (xs ++ news)→w.grownBy w' v.ownBlock→(v'.ownBlock=v.ownBlock∨v'.ownBlock=some w.heap.size)→K (a.put o.dst v') w'):o.wp P a w K Q:=by
 obtain⟨v',w',hrun,h2,h3,h4⟩:=run_append_any (P:=P) w base t o.type e i z size bytes ht hi hz hsize hby hzs hsz v n xs hown B A m c news hr h1 h63 hbytes hbase
 unfold Oper.wp execOp
 simp only[ho,resolve,invoke,builtin,Sem.run_bind,Sem.run_pure,Result.andThen_ok,List.map_toArray,List.map_cons,List.map_nil,hs,hx,hrun]
 exact h v' w' h2 h3 h4
theorem wpList_append_any {ops:Array Oper} {rest:List Oper} {o:Oper} {a:Act} {Q:Exit→Act→World→Prop} (hgd:o.guard=none) (s x:Operand) (t:TypeId)
  (ho:o.op=.call { callee:=.builtin .append,args:=#[s,x],argTypes:=#[t,t] })
  (base:Nat) (e:TypeId) (i:TypeInfo) (z:Value) (size bytes:Nat) (ht:P.underlying t=some (.slice e)) (hi:P.info? e=some i) (hz:i.zero=some z)
  (hsize:i.size=size) (hby:i.bytes=bytes) (hzs:z.cells.size=size) (hsz:0<size)
  (v:Value) (n:Nat) (xs:List Value) (hs:a.eval s=v) (hown:w.ownsRow base e size v n xs)
  (B:Nat) (A:Option Addr) (m c:Nat) (news:List Value) (hx:a.eval x=.slice A m c) (hr:Reads w B size A m news) (h1:∀ u ∈ news,u.oneCell'=true)
  (h63:n+m≤maxLen) (hbytes:(n+m)*bytes≤140737488355328) (hbase:base≤w.heap.size)
  (h:∀ v' w',w'.ownsRow base e size v' (n+m) (xs ++ news)→w.grownBy w' v.ownBlock→(v'.ownBlock=v.ownBlock∨v'.ownBlock=some w.heap.size)→wpList P ops Q rest (a.put o.dst v') w'):wpList P ops Q (o :: rest) a w :=
 wpList_plain hgd fun _ hK=>wp_append_any w s x t ho base e i z size bytes ht hi hz hsize hby hzs hsz v n xs hs hown B A m c news hx hr h1 h63 hbytes hbase fun v' w' h2 h3 h4=>hK _ _ (h v' w' h2 h3 h4)
end
theorem owns_slice {w:World} {e:TypeId} {sz n:Nat} {v:Value} {xs:List Value} (h:w.ownsRow 0 e sz v n xs):∃ A c,v=.slice A n c:=by
 obtain⟨h1,h2⟩:=h
 rcases h2 with⟨h2,e⟩ | ⟨g,cap,cur,hv,_⟩
 ·exact⟨none,0,by rw[e];exact h2⟩
 ·exact⟨_,_,hv⟩
theorem wpList_append_sh {P:Program} (w:World) {ops:Array Oper} {rest:List Oper} {o:Oper} {a:Act} {Q:Exit→Act→World→Prop} (hgd:o.guard=none) (s x:Operand) (t:TypeId)
  (ho:o.op=.call { callee:=.builtin .append,args:=#[s,x],argTypes:=#[t,t] })
  (e:TypeId) (i:TypeInfo) (z:Value) (size bytes:Nat) (ht:P.underlying t=some (.slice e)) (hi:P.info? e=some i) (hz:i.zero=some z)
  (hsize:i.size=size) (hby:i.bytes=bytes) (hzs:z.cells.size=size) (hsz:0<size)
  (v:Value) (n:Nat) (xs:List Value) (hs:a.eval s=v) (hown:w.ownsRow 0 e size v n xs)
  (B:Nat) (A:Option Addr) (m c:Nat) (news:List Value) (hx:a.eval x=.slice A m c) (hr:Reads w B size A m news) (h1:∀ u ∈ news,u.oneCell'=true)
  (h63:n+m≤maxLen) (hbytes:(n+m)*bytes≤140737488355328)
  (h:∀ A' c' w',w'.ownsRow 0 e size (.slice A' (n+m) c') (n+m) (xs ++ news)→w.grownBy w' v.ownBlock→((Value.slice A' (n+m) c').ownBlock=v.ownBlock∨(Value.slice A' (n+m) c').ownBlock=some w.heap.size)→wpList P ops Q rest (a.put o.dst (.slice A' (n+m) c')) w'):wpList P ops Q (o :: rest) a w :=
 wpList_append_any w hgd s x t ho 0 e i z size bytes ht hi hz hsize hby hzs hsz v n xs hs hown B A m c news hx hr h1 h63 hbytes (Nat.zero_le _) (fun v' w' h2 h3 h4=>by
  obtain⟨A',c',rfl⟩:=owns_slice h2
  exact h A' c' w' h2 h3 h4)
theorem own_new {u v:Value} {M N:Nat} (hu:∀ j,u.ownBlock=some j→M≤j) (hat:v.ownBlock=u.ownBlock∨v.ownBlock=some N) (hN:M≤N):∀ j,v.ownBlock=some j→M≤j:=by
 intro j e
 rcases hat with h | h
 ·exact hu j (by rw[←h];exact e)
 ·rw[h] at e;cases e;exact hN
theorem own_none {M:Nat}:∀ j,(Value.slice none 0 0).ownBlock=some j→M≤j:=fun j e=>by simp[Value.ownBlock] at e
theorem step_append_sh {P:Program} {ops:Array Oper} {o:Oper} {a:Act} {w:World} {K:Act→World→Prop} {Q:Exit→Act→World→Prop} {E:Prop} (hgd:o.guard=none) (s x:Operand) (t:TypeId)
  (ho:o.op=.call { callee:=.builtin .append,args:=#[s,x],argTypes:=#[t,t] })
  (e:TypeId) (i:TypeInfo) (z:Value) (size bytes:Nat) (ht:P.underlying t=some (.slice e)) (hi:P.info? e=some i) (hz:i.zero=some z)
  (hsize:i.size=size) (hby:i.bytes=bytes) (hzs:z.cells.size=size) (hsz:0<size)
  (v:Value) (n:Nat) (xs:List Value) (hs:a.eval s=v) (hown:w.ownsRow 0 e size v n xs)
  (B:Nat) (A:Option Addr) (m c:Nat) (news:List Value) (hx:a.eval x=.slice A m c) (hr:Reads w B size A m news) (h1:∀ u ∈ news,u.oneCell'=true)
  (h63:n+m≤maxLen) (hbytes:(n+m)*bytes≤140737488355328)
  (h:∀ A' c' w',Hid (w'.ownsRow 0 e size (.slice A' (n+m) c') (n+m) (xs ++ news))→Hid (w.grownBy w' v.ownBlock)→Hid ((Value.slice A' (n+m) c').ownBlock=v.ownBlock∨(Value.slice A' (n+m) c').ownBlock=some w.heap.size)→K (a.put o.dst (.slice A' (n+m) c')) w') :
  if Region.wanted o (yielded ops a.tmps)=true then Oper.wp P o a w K Q else E:=by
 have hw:Region.wanted o (yielded ops a.tmps)=true:=by simp[Region.wanted,hgd]
 rw[if_pos hw]
 refine wp_append_any w s x t ho 0 e i z size bytes ht hi hz hsize hby hzs hsz v n xs hs hown B A m c news hx hr h1 h63 hbytes (Nat.zero_le _) (fun v' w' h2 h3 h4=>?_)
 obtain⟨A',c',rfl⟩:=owns_slice h2
 exact h A' c' w' h2 h3 h4
def pk (c n:Int):Int:=(if c<0 then -(c+1) else c) % n
theorem ret1 {a b:Int} (h:a=b):Ending.returned (.int .i64 a)=.returned (.int .i64 b):=by rw[h]
theorem inR_small {a:Int} (h : -1000≤a∧a≤1000):inR a:=by unfold inR;omega
theorem inR_nat {a:Nat} (h:a≤1000):inR a:=by unfold inR;omega
theorem one_reads (w:World) (a:Int):Reads (w.alloc (.cells #[.int .i64 a] 3)) (w.heap.size+1) 1 (some ⟨w.heap.size,0,none⟩) 1 [.int .i64 a] :=
 ⟨rfl,fun _=>⟨_,rfl,Nat.lt_succ_self _,one_news w a⟩⟩
theorem one_cell (a:Int):∀ u ∈ [Value.int .i64 a],u.oneCell'=true:=by simp[Value.oneCell']
theorem size_alloc1 (w:World) (o:Obj):(w.alloc o).heap.size=w.heap.size+1:=by simp
end Go.Proofs.YtjfaiaipojfhgaaGreat
end
section
namespace Go.Proofs.YtjfaiaipojfhgaaGreat.qar
instance (x : Int):Decidable (inR x):=by unfold inR;exact inferInstance
def exV (x:Int):Int:=if inR x then x else 0
def exE (x:Int):Int:=if inR x then 0 else 2
theorem exV_in {x:Int} (h:inR x):exV x=x:=if_pos h
theorem exE_in {x:Int} (h:inR x):exE x=0:=if_pos h
theorem exV_out {x:Int} (h:¬inR x):exV x=0:=if_neg h
theorem exE_out {x:Int} (h:¬inR x):exE x=2:=if_neg h
theorem eqV {x y:Int} (h:inR x→y=x) (k:¬inR x→y=0):y=exV x:=by unfold exV;split;exact h ‹_›;exact k ‹_›
theorem eqE {x y:Int} (h:inR x→y=0) (k:¬inR x→y=2):y=exE x:=by unfold exE;split;exact h ‹_›;exact k ‹_›
def d0 (n:Int):Int:=n % 4294967296
def d1 (n:Int):Int:=n/4294967296 % 4294967296
def d2 (n:Int):Int:=n/18446744073709551616 % 4294967296
def d3 (n:Int):Int:=n/79228162514264337593543950336
def hi (n:Int):Int:=n/18446744073709551616
def lo (n:Int):Int:=n % 18446744073709551616
theorem hi_eq (n:Int):d3 n*4294967296+d2 n=hi n:=by unfold d3 d2 hi;omega
theorem lo_eq (n:Int):d1 n*4294967296+d0 n=lo n:=by unfold d1 d0 lo;omega
theorem d0_bd (n:Int):0≤d0 n∧d0 n<4294967296:=by unfold d0;omega
theorem d1_bd (n:Int):0≤d1 n∧d1 n<4294967296:=by unfold d1;omega
theorem d2_bd (n:Int):0≤d2 n∧d2 n<4294967296:=by unfold d2;omega
theorem d3_bd (n:Int) (h:0≤n) (k:n<340282366920938463463374607431768211456):0≤d3 n∧d3 n<4294967296:=by unfold d3;omega
theorem lo_bd (n:Int):0≤lo n∧lo n<18446744073709551616:=by unfold lo;omega
theorem hi_bd (n:Int) (h:0≤n) (k:n<340282366920938463463374607431768211456):0≤hi n∧hi n<18446744073709551616:=by unfold hi;omega
theorem or_mul (a b i m:Nat) (hm:m=2 ^ i) (h:a<m):(b*m) ||| a=b*m+a:=by
 subst hm
 rw[←Nat.shiftLeft_eq,Nat.shiftLeft_add_eq_or_of_lt h]
theorem or_join (a b:Int) (a0:0≤a) (a1:a<4294967296) (b0:0≤b) (b1:b<4294967296):bits BinOp.or IntKind.u64 (a*4294967296) b=a*4294967296+b:=by
 obtain⟨n,rfl⟩:=Int.eq_ofNat_of_zero_le a0
 obtain⟨m,rfl⟩:=Int.eq_ofNat_of_zero_le b0
 have e:((n:Int)*4294967296)=((n*4294967296:Nat):Int):=by omega
 rw[e,u64_or_nat _ _ (by omega) (by omega),or_mul m n 32 4294967296 (by decide) (by omega)]
 omega
theorem or_bit (a b:Int) (a0:0≤a) (a1:a<9223372036854775808) (b0:0≤b) (b1:b<2):bits BinOp.or IntKind.u64 (a*2) b=a*2+b:=by
 obtain⟨n,rfl⟩:=Int.eq_ofNat_of_zero_le a0
 obtain⟨m,rfl⟩:=Int.eq_ofNat_of_zero_le b0
 have e:((n:Int)*2)=((n*2:Nat):Int):=by omega
 rw[e,u64_or_nat _ _ (by omega) (by omega),or_mul m n 1 2 (by decide) (by omega)]
 omega
theorem school (a b:Int) (a0:0≤a) (a1:a<18446744073709551616) (b0:0≤b) (b1:b<18446744073709551616) (x0 x1 y0 y1 s0 s1 s2 s3:Int)
  (hx0:x0=a % 4294967296) (hx1:x1=a/4294967296 % 4294967296) (hy0:y0=b % 4294967296) (hy1:y1=b/4294967296 % 4294967296)
  (h0:s0=x0*y0) (h1:s1=x0*y1+s0/4294967296 % 4294967296) (h2:s2=x1*y0+s1 % 4294967296) (h3:s3=x1*y1+s1/4294967296 % 4294967296+s2/4294967296 % 4294967296) :
  s0 % 4294967296=d0 (a*b)∧s2 % 4294967296=d1 (a*b)∧s3 % 4294967296=d2 (a*b)∧s3/4294967296 % 4294967296=d3 (a*b)
  ∧ (0≤s0∧s0<18446744073709551616)∧(0≤s1∧s1<18446744073709551616)∧(0≤s2∧s2<18446744073709551616)∧(0≤s3∧s3<18446744073709551616):=by
 have ea:a=x1*4294967296+x0:=by omega
 have eb:b=y1*4294967296+y0:=by omega
 have bx0:0≤x0∧x0≤4294967295:=by omega
 have bx1:0≤x1∧x1≤4294967295:=by omega
 have by0:0≤y0∧y0≤4294967295:=by omega
 have by1:0≤y1∧y1≤4294967295:=by omega
 have em:a*b=x1*y1*18446744073709551616+(x0*y1+x1*y0)*4294967296+x0*y0:=by
  rw[ea,eb];simp only[Int.add_mul,Int.mul_add];
  have q1:x1*4294967296*(y1*4294967296)=x1*y1*18446744073709551616:=by rw[Int.mul_assoc,Int.mul_left_comm 4294967296 y1 4294967296,←Int.mul_assoc];rfl
  have q2:x1*4294967296*y0=x1*y0*4294967296:=by rw[Int.mul_assoc,Int.mul_comm 4294967296 y0,←Int.mul_assoc]
  have q3:x0*(y1*4294967296)=x0*y1*4294967296:=by rw[Int.mul_assoc]
  rw[q1,q2,q3];omega
 have m00:0≤x0*y0∧x0*y0≤4294967295*4294967295:=⟨Int.mul_nonneg bx0.1 by0.1,Int.mul_le_mul bx0.2 by0.2 by0.1 (by omega)⟩
 have m01:0≤x0*y1∧x0*y1≤4294967295*4294967295:=⟨Int.mul_nonneg bx0.1 by1.1,Int.mul_le_mul bx0.2 by1.2 by1.1 (by omega)⟩
 have m10:0≤x1*y0∧x1*y0≤4294967295*4294967295:=⟨Int.mul_nonneg bx1.1 by0.1,Int.mul_le_mul bx1.2 by0.2 by0.1 (by omega)⟩
 have m11:0≤x1*y1∧x1*y1≤4294967295*4294967295:=⟨Int.mul_nonneg bx1.1 by1.1,Int.mul_le_mul bx1.2 by1.2 by1.1 (by omega)⟩
 rw[em]
 generalize x0*y0=X at *
 generalize x0*y1=Y at *
 generalize x1*y0=Z at *
 generalize x1*y1=U at *
 clear hx0 hx1 hy0 hy1 ea eb em
 have t0:0≤s0∧s0<18446744073709551616:=by omega
 have t1:0≤s1∧s1<18446744073709551616:=by omega
 have t2:0≤s2∧s2<18446744073709551616:=by omega
 have t3:0≤s3∧s3<18446744073709551616:=by omega
 have eN:U*18446744073709551616+(Y+Z)*4294967296+X=s3*18446744073709551616+(s2 % 4294967296)*4294967296+s0 % 4294967296:=by omega
 rw[eN]
 unfold d0 d1 d2 d3
 refine⟨by omega,by omega,by omega,by omega,t0,t1,t2,t3⟩
end Go.Proofs.YtjfaiaipojfhgaaGreat.qar
end
section
namespace Go.Proofs.YtjfaiaipojfhgaaGreat.qar
theorem divmod_of {x c q r:Int} (h:q*c+r=x) (r0:0≤r) (r1:r<c):x/c=q∧x % c=r:=by
 have hc:0<c:=by omega
 have:=(Int.ediv_emod_unique (a:=x) (b:=c) (r:=r) (q:=q) hc).2 ⟨by rw[Int.mul_comm c q];omega,r0,r1⟩
 exact this
def nk (L:Int):Nat→Int
 | 0=>L
 | k+1=>nk L k*2 % 18446744073709551616
def Mk (H L:Int):Nat→Int
 | 0=>H
 | k+1=>Mk H L k*2+nk L k/9223372036854775808
theorem nk_bd (L:Int) (h:0≤L∧L<18446744073709551616):∀ k,0≤nk L k∧nk L k<18446744073709551616
 | 0=>h
 | k+1=>by unfold nk;omega
theorem Mk_eq (H L:Int) (h:0≤L∧L<18446744073709551616):∀ k,Mk H L k*18446744073709551616+nk L k=(H*18446744073709551616+L)*2 ^ k
 | 0=>by simp[Mk,nk]
 | k+1=>by
  have:=Mk_eq H L h k
  have b:=nk_bd L h k
  rw[Int.pow_succ,←Int.mul_assoc,←this]
  show (Mk H L k*2+nk L k/9223372036854775808)*18446744073709551616+nk L k*2 % 18446744073709551616=_
  omega
structure DivRel (H L c:Int) (k:Nat) (q r n:Int):Prop where
 eq:q*c+r=Mk H L k
 r0:0≤r
 r1:r<c
 q0:0≤q
 q1:q<2 ^ k
 n:n=nk L k
theorem DivRel.start {H L c:Int} (h0:0≤H) (h1:H<c):DivRel H L c 0 0 H L:=⟨by simp[Mk],h0,h1,by omega,by simp,rfl⟩
theorem DivRel.nbd {H L c q r n:Int} {k:Nat} (h:DivRel H L c k q r n) (hL:0≤L∧L<18446744073709551616):0≤n∧n<18446744073709551616:=by
 rw[h.n];exact nk_bd L hL k
theorem DivRel.qbd {H L c q r n:Int} {k:Nat} (h:DivRel H L c k q r n) (hk:k<64):q<9223372036854775808:=by
 have hp:(2:Nat) ^ k≤2 ^ 63:=Nat.pow_le_pow_right (by decide) (by omega)
 have:(2:Int) ^ k≤2 ^ 63:=by exact_mod_cast hp
 have:=h.q1
 omega
theorem DivRel.less {H L c q r n:Int} {k:Nat} (h:DivRel H L c k q r n) (hs:r*2+n/9223372036854775808<c) (hL:0≤L∧L<18446744073709551616) :
  DivRel H L c (k+1) (q*2) (r*2+n/9223372036854775808) (n*2 % 18446744073709551616):=by
 have hn:=h.nbd hL
 have h0:=h.r0
 refine⟨?_,by omega,hs,by have:=h.q0;omega,?_,?_⟩
 ·unfold Mk;rw[←h.eq,←h.n,Int.add_mul,Int.mul_right_comm];omega
 ·have:=h.q1;rw[Int.pow_succ];omega
 ·rw[h.n];rfl
theorem DivRel.more {H L c q r n:Int} {k:Nat} (h:DivRel H L c k q r n) (hs:c≤r*2+n/9223372036854775808) (hL:0≤L∧L<18446744073709551616) :
  DivRel H L c (k+1) (q*2+1) (r*2+n/9223372036854775808-c) (n*2 % 18446744073709551616):=by
 have hn:=h.nbd hL
 have h0:=h.r0
 have h1:=h.r1
 refine⟨?_,by omega,by omega,by have:=h.q0;omega,?_,?_⟩
 ·unfold Mk;rw[←h.eq,←h.n,Int.add_mul,Int.add_mul,Int.mul_right_comm];omega
 ·have:=h.q1;rw[Int.pow_succ];omega
 ·rw[h.n];rfl
theorem DivRel.done {H L c q r n:Int} (h:DivRel H L c 64 q r n) (hL:0≤L∧L<18446744073709551616) :
  (H*18446744073709551616+L)/c=q∧(H*18446744073709551616+L) % c=r:=by
 refine divmod_of ?_ h.r0 h.r1
 rw[h.eq]
 have e:=Mk_eq H L hL 64
 have b:=nk_bd L hL 64
 have p:(2:Int) ^ 64=18446744073709551616:=by decide
 rw[p] at e
 omega
def mdQ (a b c:Int) (up:Bool):Int:=if up=true∧a*b % c≠0 then a*b/c+1 else a*b/c
def mdV (a b c:Int) (up:Bool):Int:=if a<0∨b<0∨c≤0 then 0 else exV (mdQ a b c up)
def mdE (a b c:Int) (up:Bool):Int:=if a<0∨b<0∨c≤0 then 1 else exE (mdQ a b c up)
theorem md_bad {a b c:Int} {up:Bool} (h:a<0∨b<0∨c≤0):mdV a b c up=0∧mdE a b c up=1:=⟨if_pos h,if_pos h⟩
theorem md_good {a b c:Int} {up:Bool} (h0:0≤a) (h1:0≤b) (h2:0<c):mdV a b c up=exV (mdQ a b c up)∧mdE a b c up=exE (mdQ a b c up) :=
 ⟨if_neg (by omega),if_neg (by omega)⟩
def cdV (a b:Int):Int:=if a<0∨b≤0 then 0 else if a % b=0 then a/b else a/b+1
def cdE (a b:Int):Int:=if a<0∨b≤0 then 1 else 0
end Go.Proofs.YtjfaiaipojfhgaaGreat.qar
end
section
namespace Go.Proofs.YtjfaiaipojfhgaaGreat
structure Tsk where
 p:Int
 d:Int
 w:Int
 secs:List (Int × Int × Int)
structure Sys where
 co:Int
 po:Int
 pr:Int
 re:Int
 sw:Int
 fi:Int
 la:Int
 rs:Int
 ts:List Tsk
def secN (x:Int × Int × Int):List Int:=[x.1,x.2.1,x.2.2]
def tskN (t:Tsk):List Int:=t.p :: t.d :: t.w :: (t.secs.length:Int) :: t.secs.flatMap secN
def nums (s:Sys):List Int:=1 :: s.co :: s.po :: s.pr :: s.re :: s.sw :: s.fi :: s.la :: s.rs :: (s.ts.length:Int) :: s.ts.flatMap tskN
structure Fit (s:Sys):Prop where
 tasks:s.ts.length≤24
 secs:∀ t ∈ s.ts,t.secs.length≤4
 pos:∀ z ∈ nums s,0≤z
end Go.Proofs.YtjfaiaipojfhgaaGreat
end
