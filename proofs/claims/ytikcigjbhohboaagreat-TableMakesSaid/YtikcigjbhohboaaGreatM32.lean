/- Part 32 of a proof: PaU. -/
import Derived.Lib.SmallJoins
import Derived.Test.YtikcigjbhohboaaGreatM31
section
namespace Go.Proofs.YtikcigjbhohboaaGreat.pln
open Go.Lib (hid)
set_option linter.unusedVariables false
set_option linter.unusedSimpArgs false
open Go.ChangeShapes Go.WideShapes Go.ChangeAt Go.RowKit Go.Deep Go.Shelf val ter Go.Sort
attribute [local go_sem] Oper.semAt_some
def TN (B m b:Nat) (X:World) (k:Nat):Prop:=B≤k∧((k=m∨k=b)∨∃ o:Obj,X.heap[k]? = some o∧o.isCells=false)
theorem tn_alloc (B m b:Nat):∀ X cs e,(∀ k,TN B m b X k→k<X.heap.size)→∀ k,TN B m b (X.alloc (.cells cs e)) k→TN B m b X k:=by
 rintro X cs e _ k ⟨h1,h2⟩
 refine⟨h1,?_⟩
 rcases h2 with h2 | ⟨o,ho,hc⟩
 ·exact .inl h2
 ·by_cases hk:k<X.heap.size
  ·exact .inr ⟨o,((((But.refl No X).alloc (.cells cs e)).block k hk (fun f=>f)).symm.trans ho),hc⟩
  ·have hl:=(Array.getElem?_eq_some_iff.1 ho).1
   rw[World.size_alloc] at hl
   obtain rfl:k=X.heap.size:=by omega
   have hn:=World.alloc_heap_new X (.cells cs e)
   rw[hn] at ho
   cases ho;cases hc
theorem tn_lt {B m b k:Nat} {X:World} (hm:m<X.heap.size) (hb:b<X.heap.size) (h:TN B m b X k):k<X.heap.size:=by
 rcases h.2 with(h | h) | ⟨o,h,_⟩
 ·omega
 ·omega
 ·exact(Array.getElem?_eq_some_iff.1 h).1
theorem tn_not {B m b k:Nat} {X:World} {cur:Array Value} {e:TypeId} (h:Blk X k cur e) (hm:k≠m) (hb:k≠b):¬TN B m b X k:=fun ⟨_,h2⟩=>by
 rcases h2 with(h2 | h2) | ⟨o,h2,h3⟩
 ·exact hm h2
 ·exact hb h2
 ·unfold Blk at h
  rw[h] at h2
  cases h2;cases h3
theorem set10_no {W X:World} {b:Nat} (h:But No W X) (hb:W.heap.size≤b) (v0 v1 v2 v3 v4 v5 v6 v7 v8 v9:Value):But No W ((((((((((X.setCell ⟨b,0,none⟩ v0).setCell ⟨b,1,none⟩ v1).setCell ⟨b,2,none⟩ v2).setCell ⟨b,3,none⟩ v3).setCell ⟨b,4,none⟩ v4).setCell ⟨b,5,none⟩ v5).setCell ⟨b,6,none⟩ v6).setCell ⟨b,7,none⟩ v7).setCell ⟨b,8,none⟩ v8).setCell ⟨b,9,none⟩ v9) :=
 ((((((((((h.setNew hb v0).setNew hb v1).setNew hb v2).setNew hb v3).setNew hb v4).setNew hb v5).setNew hb v6).setNew hb v7).setNew hb v8).setNew hb v9)
theorem kf_of {B:Nat} {S:Nat→Prop} {W W':World} (h:But S W W') (hS:∀ k,S k→k<B):KeepsFrom B W W' :=
 ⟨h.size,fun k o hB hk _=>(h.block k (Array.getElem?_eq_some_iff.1 hk).1 (fun e=>by have:=hS k e;omega)).trans hk⟩
theorem kt_of {B m b:Nat} {X Y:World} (h:But (fun k=>k=m∨k=b) X Y) (hm:B≤m) (hb:B≤b):KT (TN B m b) X Y:=fun ho=>by
 have hsm:∀ k,k=m∨k=b→TN B m b X k:=fun k e=>⟨by rcases e with e | e <;> omega,.inl e⟩
 refine⟨h.mono (fun k _ e=>hsm k e),fun k hk ⟨h1,h2⟩=>?_,fun k ⟨h1,h2⟩=>?_⟩
 ·by_cases e:k=m∨k=b
  ·exact hsm k e
  ·rcases h2 with h2 | ⟨o,h3,h4⟩
   ·exact absurd h2 e
   ·exact⟨h1,.inr ⟨o,(h.block k hk e).symm.trans h3,h4⟩⟩
 ·rcases h2 with h2 | ⟨o,h3,_⟩
  ·exact Nat.lt_of_lt_of_le (ho k (hsm k h2)) h.size
  ·exact(Array.getElem?_eq_some_iff.1 h3).1
theorem kt_put {B m b:Nat} (X:World) (l:Nat) (o o':Obj) (hB:B≤l) (ho:X.heap[l]? = some o) (hc:o.isCells=false):KT (TN B m b) X (X.putObj l o'):=fun hk=>by
 have hl:TN B m b X l:=⟨hB,.inr ⟨o,ho,hc⟩⟩
 have hb:But (fun k=>k=l) X (X.putObj l o'):=(But.refl _ X).grown (grownBy_putObj' _ l o') (fun k e=>.inl (by cases e;rfl))
 refine⟨hb.mono (fun k _ e=>by rw[show k=l from e];exact hl),fun k hk2 ⟨h1,h2⟩=>?_,fun k ⟨h1,h2⟩=>?_⟩
 ·by_cases e:k=l
  ·rw[e];exact hl
  ·rcases h2 with h2 | ⟨z,h3,h4⟩
   ·exact⟨h1,.inl h2⟩
   ·exact⟨h1,.inr ⟨z,(hb.block k hk2 e).symm.trans h3,h4⟩⟩
 ·rcases h2 with h2 | ⟨z,h3,_⟩
  ·exact Nat.lt_of_lt_of_le (hk k ⟨h1,.inl h2⟩) hb.size
  ·exact(Array.getElem?_eq_some_iff.1 h3).1
theorem blk_set11 {W:World} {q:Nat} {u0 u1 u2 u3 u4 u5 u6 u7 u8 u9 u10:Value} {e:TypeId} (h:Blk W q #[u0,u1,u2,u3,u4,u5,u6,u7,u8,u9,u10] e) (v0 v1 v2 v3 v4 v5 v6 v7 v8 v9 v10:Value) :
  Blk (((((((((((W.setCell ⟨q,0,none⟩ v0).setCell ⟨q,1,none⟩ v1).setCell ⟨q,2,none⟩ v2).setCell ⟨q,3,none⟩ v3).setCell ⟨q,4,none⟩ v4).setCell ⟨q,5,none⟩ v5).setCell ⟨q,6,none⟩ v6).setCell ⟨q,7,none⟩ v7).setCell ⟨q,8,none⟩ v8).setCell ⟨q,9,none⟩ v9).setCell ⟨q,10,none⟩ v10) q #[v0,v1,v2,v3,v4,v5,v6,v7,v8,v9,v10] e∧But (Just q) W (((((((((((W.setCell ⟨q,0,none⟩ v0).setCell ⟨q,1,none⟩ v1).setCell ⟨q,2,none⟩ v2).setCell ⟨q,3,none⟩ v3).setCell ⟨q,4,none⟩ v4).setCell ⟨q,5,none⟩ v5).setCell ⟨q,6,none⟩ v6).setCell ⟨q,7,none⟩ v7).setCell ⟨q,8,none⟩ v8).setCell ⟨q,9,none⟩ v9).setCell ⟨q,10,none⟩ v10):=by
 refine⟨?_,((((((((((((But.refl (Just q) W).setCell (p:=⟨q,0,none⟩) rfl v0).setCell (p:=⟨q,1,none⟩) rfl v1).setCell (p:=⟨q,2,none⟩) rfl v2).setCell (p:=⟨q,3,none⟩) rfl v3).setCell (p:=⟨q,4,none⟩) rfl v4).setCell (p:=⟨q,5,none⟩) rfl v5).setCell (p:=⟨q,6,none⟩) rfl v6).setCell (p:=⟨q,7,none⟩) rfl v7).setCell (p:=⟨q,8,none⟩) rfl v8).setCell (p:=⟨q,9,none⟩) rfl v9).setCell (p:=⟨q,10,none⟩) rfl v10)⟩
 have h0:Blk (W.setCell ⟨q,0,none⟩ v0) q #[v0,u1,u2,u3,u4,u5,u6,u7,u8,u9,u10] e:=by
  have:=h.set 0 v0
  simpa using this
 have h1:Blk ((W.setCell ⟨q,0,none⟩ v0).setCell ⟨q,1,none⟩ v1) q #[v0,v1,u2,u3,u4,u5,u6,u7,u8,u9,u10] e:=by
  have:=h0.set 1 v1
  simpa using this
 have h2:Blk (((W.setCell ⟨q,0,none⟩ v0).setCell ⟨q,1,none⟩ v1).setCell ⟨q,2,none⟩ v2) q #[v0,v1,v2,u3,u4,u5,u6,u7,u8,u9,u10] e:=by
  have:=h1.set 2 v2
  simpa using this
 have h3:Blk ((((W.setCell ⟨q,0,none⟩ v0).setCell ⟨q,1,none⟩ v1).setCell ⟨q,2,none⟩ v2).setCell ⟨q,3,none⟩ v3) q #[v0,v1,v2,v3,u4,u5,u6,u7,u8,u9,u10] e:=by
  have:=h2.set 3 v3
  simpa using this
 have h4:Blk (((((W.setCell ⟨q,0,none⟩ v0).setCell ⟨q,1,none⟩ v1).setCell ⟨q,2,none⟩ v2).setCell ⟨q,3,none⟩ v3).setCell ⟨q,4,none⟩ v4) q #[v0,v1,v2,v3,v4,u5,u6,u7,u8,u9,u10] e:=by
  have:=h3.set 4 v4
  simpa using this
 have h5:Blk ((((((W.setCell ⟨q,0,none⟩ v0).setCell ⟨q,1,none⟩ v1).setCell ⟨q,2,none⟩ v2).setCell ⟨q,3,none⟩ v3).setCell ⟨q,4,none⟩ v4).setCell ⟨q,5,none⟩ v5) q #[v0,v1,v2,v3,v4,v5,u6,u7,u8,u9,u10] e:=by
  have:=h4.set 5 v5
  simpa using this
 have h6:Blk (((((((W.setCell ⟨q,0,none⟩ v0).setCell ⟨q,1,none⟩ v1).setCell ⟨q,2,none⟩ v2).setCell ⟨q,3,none⟩ v3).setCell ⟨q,4,none⟩ v4).setCell ⟨q,5,none⟩ v5).setCell ⟨q,6,none⟩ v6) q #[v0,v1,v2,v3,v4,v5,v6,u7,u8,u9,u10] e:=by
  have:=h5.set 6 v6
  simpa using this
 have h7:Blk ((((((((W.setCell ⟨q,0,none⟩ v0).setCell ⟨q,1,none⟩ v1).setCell ⟨q,2,none⟩ v2).setCell ⟨q,3,none⟩ v3).setCell ⟨q,4,none⟩ v4).setCell ⟨q,5,none⟩ v5).setCell ⟨q,6,none⟩ v6).setCell ⟨q,7,none⟩ v7) q #[v0,v1,v2,v3,v4,v5,v6,v7,u8,u9,u10] e:=by
  have:=h6.set 7 v7
  simpa using this
 have h8:Blk (((((((((W.setCell ⟨q,0,none⟩ v0).setCell ⟨q,1,none⟩ v1).setCell ⟨q,2,none⟩ v2).setCell ⟨q,3,none⟩ v3).setCell ⟨q,4,none⟩ v4).setCell ⟨q,5,none⟩ v5).setCell ⟨q,6,none⟩ v6).setCell ⟨q,7,none⟩ v7).setCell ⟨q,8,none⟩ v8) q #[v0,v1,v2,v3,v4,v5,v6,v7,v8,u9,u10] e:=by
  have:=h7.set 8 v8
  simpa using this
 have h9:Blk ((((((((((W.setCell ⟨q,0,none⟩ v0).setCell ⟨q,1,none⟩ v1).setCell ⟨q,2,none⟩ v2).setCell ⟨q,3,none⟩ v3).setCell ⟨q,4,none⟩ v4).setCell ⟨q,5,none⟩ v5).setCell ⟨q,6,none⟩ v6).setCell ⟨q,7,none⟩ v7).setCell ⟨q,8,none⟩ v8).setCell ⟨q,9,none⟩ v9) q #[v0,v1,v2,v3,v4,v5,v6,v7,v8,v9,u10] e:=by
  have:=h8.set 9 v9
  simpa using this
 have h10:Blk (((((((((((W.setCell ⟨q,0,none⟩ v0).setCell ⟨q,1,none⟩ v1).setCell ⟨q,2,none⟩ v2).setCell ⟨q,3,none⟩ v3).setCell ⟨q,4,none⟩ v4).setCell ⟨q,5,none⟩ v5).setCell ⟨q,6,none⟩ v6).setCell ⟨q,7,none⟩ v7).setCell ⟨q,8,none⟩ v8).setCell ⟨q,9,none⟩ v9).setCell ⟨q,10,none⟩ v10) q #[v0,v1,v2,v3,v4,v5,v6,v7,v8,v9,v10] e:=by
  have:=h9.set 10 v10
  simpa using this
 exact h10
theorem zero_cells {W:World} {q:Nat} (h:Blk W q #[.int .i64 0,.int .i64 0,.int .i64 0,.int .i64 0,.int .i64 0,.int .i64 0,.int .i64 0,.int .i64 0,.slice none 0 0,.map none,.slice none 0 0] 123):(W.cell? ⟨q,0,none⟩=some (.int .i64 0)∧W.cell? ⟨q,1,none⟩=some (.int .i64 0)∧W.cell? ⟨q,2,none⟩=some (.int .i64 0)∧W.cell? ⟨q,3,none⟩=some (.int .i64 0)∧W.cell? ⟨q,4,none⟩=some (.int .i64 0)∧W.cell? ⟨q,5,none⟩=some (.int .i64 0)∧W.cell? ⟨q,6,none⟩=some (.int .i64 0)∧W.cell? ⟨q,7,none⟩=some (.int .i64 0)∧W.cell? ⟨q,8,none⟩=some (.slice none 0 0)∧W.cell? ⟨q,9,none⟩=some (.map none)∧W.cell? ⟨q,10,none⟩=some (.slice none 0 0))∧(W.frozen? ⟨q,0,none⟩=false∧W.frozen? ⟨q,1,none⟩=false∧W.frozen? ⟨q,2,none⟩=false∧W.frozen? ⟨q,3,none⟩=false∧W.frozen? ⟨q,4,none⟩=false∧W.frozen? ⟨q,5,none⟩=false∧W.frozen? ⟨q,6,none⟩=false∧W.frozen? ⟨q,7,none⟩=false∧W.frozen? ⟨q,8,none⟩=false∧W.frozen? ⟨q,9,none⟩=false∧W.frozen? ⟨q,10,none⟩=false) :=
 ⟨⟨h.cell (o:=0) rfl,h.cell (o:=1) rfl,h.cell (o:=2) rfl,h.cell (o:=3) rfl,h.cell (o:=4) rfl,h.cell (o:=5) rfl,h.cell (o:=6) rfl,h.cell (o:=7) rfl,h.cell (o:=8) rfl,h.cell (o:=9) rfl,h.cell (o:=10) rfl⟩,h.frozen 0,h.frozen 1,h.frozen 2,h.frozen 3,h.frozen 4,h.frozen 5,h.frozen 6,h.frozen 7,h.frozen 8,h.frozen 9,h.frozen 10⟩
theorem undrew {S:Nat→Prop} {a b:World} (h:But S a b):But S a.drew b:=⟨h.os,h.tape,h.output,h.size,h.block⟩
theorem s9_no {W W':World} {q:Nat} {s:Sys} {A:Option Addr} {n c:Nat} (h:S9 W q s A n c) (hb:But No W W'):S9 W' q s A n c:=by
 obtain⟨h0,h1,h2,h3,h4,h5,h6,h7,h8⟩:=h
 exact⟨cell_keep h0 hb,cell_keep h1 hb,cell_keep h2 hb,cell_keep h3 hb,cell_keep h4 hb,cell_keep h5 hb,cell_keep h6 hb,cell_keep h7 hb,cell_keep h8 hb⟩
theorem s9_set11 {W:World} {q b:Nat} {s:Sys} {A:Option Addr} {n c:Nat} {v0 v1 v2 v3 v4 v5 v6 v7 v8 v9 v10:Value} (h:S9 W q s A n c) (hne:q≠b):S9 (((((((((((W.setCell ⟨b,0,none⟩ v0).setCell ⟨b,1,none⟩ v1).setCell ⟨b,2,none⟩ v2).setCell ⟨b,3,none⟩ v3).setCell ⟨b,4,none⟩ v4).setCell ⟨b,5,none⟩ v5).setCell ⟨b,6,none⟩ v6).setCell ⟨b,7,none⟩ v7).setCell ⟨b,8,none⟩ v8).setCell ⟨b,9,none⟩ v9).setCell ⟨b,10,none⟩ v10) q s A n c:=by
 have hb:But (Just b) W (((((((((((W.setCell ⟨b,0,none⟩ v0).setCell ⟨b,1,none⟩ v1).setCell ⟨b,2,none⟩ v2).setCell ⟨b,3,none⟩ v3).setCell ⟨b,4,none⟩ v4).setCell ⟨b,5,none⟩ v5).setCell ⟨b,6,none⟩ v6).setCell ⟨b,7,none⟩ v7).setCell ⟨b,8,none⟩ v8).setCell ⟨b,9,none⟩ v9).setCell ⟨b,10,none⟩ v10):=((((((((((((But.refl (Just b) W).setCell (p:=⟨b,0,none⟩) rfl v0).setCell (p:=⟨b,1,none⟩) rfl v1).setCell (p:=⟨b,2,none⟩) rfl v2).setCell (p:=⟨b,3,none⟩) rfl v3).setCell (p:=⟨b,4,none⟩) rfl v4).setCell (p:=⟨b,5,none⟩) rfl v5).setCell (p:=⟨b,6,none⟩) rfl v6).setCell (p:=⟨b,7,none⟩) rfl v7).setCell (p:=⟨b,8,none⟩) rfl v8).setCell (p:=⟨b,9,none⟩) rfl v9).setCell (p:=⟨b,10,none⟩) rfl v10)
 generalize (((((((((((W.setCell ⟨b,0,none⟩ v0).setCell ⟨b,1,none⟩ v1).setCell ⟨b,2,none⟩ v2).setCell ⟨b,3,none⟩ v3).setCell ⟨b,4,none⟩ v4).setCell ⟨b,5,none⟩ v5).setCell ⟨b,6,none⟩ v6).setCell ⟨b,7,none⟩ v7).setCell ⟨b,8,none⟩ v8).setCell ⟨b,9,none⟩ v9).setCell ⟨b,10,none⟩ v10)=Y at hb ⊢
 obtain⟨h0,h1,h2,h3,h4,h5,h6,h7,h8⟩:=h
 exact⟨cell_butS h0 hb hne,cell_butS h1 hb hne,cell_butS h2 hb hne,cell_butS h3 hb hne,cell_butS h4 hb hne,cell_butS h5 hb hne,cell_butS h6 hb hne,cell_butS h7 hb hne,cell_butS h8 hb hne⟩
theorem s9_ald {W:World} {q:Nat} {s:Sys} {A:Option Addr} {n c:Nat} (h:S9 W.drew q s A n c) (o:Obj):S9 (W.alloc o).drew q s A n c:=s9_no (W:=W) h (((But.refl No W).alloc o).drew)
theorem s9_al0d {W:World} {q:Nat} {s:Sys} {A:Option Addr} {n c:Nat} (h:S9 W.drew q s A n c) (o:Obj):S9 (W.alloc o) q s A n c:=s9_no (W:=W) h ((But.refl No W).alloc o)
theorem s9_al2 {W:World} {q:Nat} {s:Sys} {A:Option Addr} {n c:Nat} (h:S9 W q s A n c) (o o':Obj):S9 ((W.alloc o).alloc o') q s A n c:=s9_no h (((But.refl No W).alloc o).alloc o')
theorem s9_al {W:World} {q:Nat} {s:Sys} {A:Option Addr} {n c:Nat} (h:S9 W q s A n c) (o:Obj):S9 (W.alloc o).drew q s A n c:=s9_no h (((But.refl No W).alloc o).drew)
theorem s9_al0 {W:World} {q:Nat} {s:Sys} {A:Option Addr} {n c:Nat} (h:S9 W q s A n c) (o:Obj):S9 (W.alloc o) q s A n c:=s9_no h ((But.refl No W).alloc o)
structure LS (w:World) (s:Sys) (A:Option Addr) (n c m b q K:Nat) (F:Int→Int→Option Pt) (f:Nat→Int) (W:World):Prop where
 ly:LY w W s A n c m b K F f
 x0:Blk W w.heap.size (boxS s A n c) 24
 x1:Blk W (w.heap.size+1) #[.int .i64 0,.int .i64 0,.int .i64 0,.int .i64 0,.int .i64 0,.int .i64 0,.int .i64 0,.int .i64 0,.slice none 0 0,.map none,.slice none 0 0] 123
 x2:Blk W (w.heap.size+1+1) #[.bool false] 4
 x3:Blk W q (lyA s A n c m b) 123
 om:w.heap.size+1+1<m
 ob:w.heap.size+1+1<b
 oq:w.heap.size+1+1<q
 qm:q≠m
 qb:q≠b
section
variable {w W W':World} {s:Sys} {A:Option Addr} {n c m b q K:Nat} {F:Int→Int→Option Pt} {f:Nat→Int}
theorem LS.far (h:LS w s A n c m b q K F f W) {S:Nat→Prop} (hb:But S W W') {Z:Nat} (hm:m<Z) (hbz:b<Z) (hq:q<Z) (hS:∀ k,S k→Z≤k):LS w s A n c m b q K F f W':=by
 have hom:=h.om
 have hob:=h.ob
 have hoq:=h.oq
 exact⟨h.ly.turn hb (fun k _ e=>by have:=hS k e;omega),h.x0.but hb (fun e=>by have:=hS _ e;omega),h.x1.but hb (fun e=>by have:=hS _ e;omega),h.x2.but hb (fun e=>by have:=hS _ e;omega),h.x3.but hb (fun e=>by have:=hS _ e;omega),h.om,h.ob,h.oq,h.qm,h.qb⟩
theorem LS.no (h:LS w s A n c m b q K F f W) (hb:But No W W'):LS w s A n c m b q K F f W' :=
 ⟨h.ly.no hb,h.x0.but hb (fun f=>f),h.x1.but hb (fun f=>f),h.x2.but hb (fun f=>f),h.x3.but hb (fun f=>f),h.om,h.ob,h.oq,h.qm,h.qb⟩
theorem LS.step (h:LS w s A n c m b q K F f W) {K':Nat} {F':Int→Int→Option Pt} {f':Nat→Int} (hy:LY w W' s A n c m b K' F' f') (hb:But (fun k=>k=m∨k=b) W W'):LS w s A n c m b q K' F' f' W':=by
 have hom:=h.om
 have hob:=h.ob
 have hoq:=h.oq
 have hqm:=h.qm
 have hqb:=h.qb
 exact⟨hy,h.x0.but hb (fun e=>by rcases e with e | e <;> omega),h.x1.but hb (fun e=>by rcases e with e | e <;> omega),h.x2.but hb (fun e=>by rcases e with e | e <;> omega),h.x3.but hb (fun e=>by rcases e with e | e <;> omega),h.om,h.ob,h.oq,h.qm,h.qb⟩
end
structure Ob (W:World) (k:Nat) (o:Obj):Prop where
 h:W.heap[k]? = some o
theorem ob_drew {W:World} {k:Nat} {o:Obj} (h:Ob W k o):Ob W.drew k o:=⟨h.h⟩
theorem ob_new {W:World} {k:Nat} {o:Obj} (h:k=W.heap.size):Ob (W.alloc o) k o:=⟨by rw[h];exact World.alloc_heap_new W o⟩
theorem ob_but {W W':World} {k:Nat} {o:Obj} (h:Ob W k o) (hb:But No W W'):Ob W' k o:=⟨(hb.block k (Array.getElem?_eq_some_iff.1 h.h).1 (fun f=>f)).trans h.h⟩
theorem ob_al {W:World} {k:Nat} {o o':Obj} (h:Ob W k o):Ob (W.alloc o') k o:=ob_but h ((But.refl No W).alloc o')
theorem ob_n0 {W:World} {o:Obj}:Ob (W.alloc o) W.heap.size o:=ob_new rfl
theorem ob_n1 {W:World} {o x:Obj}:Ob ((W.alloc x).alloc o) (W.heap.size+1) o:=ob_new (by simp)
theorem ob_n2 {W:World} {o x y:Obj}:Ob (((W.alloc x).alloc y).alloc o) (W.heap.size+1+1) o:=ob_new (by simp)
theorem ob_cell {W:World} {k:Nat} {v:Value} {e:TypeId} (h:Ob W k (.cells #[v] e (0,0))):W.cell? ⟨k,0,none⟩=some v:=Blk.cell (cur:=#[v]) (e:=e) h.h rfl
set_option maxRecDepth 100000 in
theorem ls_of {w w1 X:World} {s:Sys} {A:Option Addr} {N c m b q:Nat} (hs:RSys w A N c s) (hB1:But No w w1) (hx0:Blk w1 w.heap.size (boxS s A N c) 24) (hx1:Blk w1 (w.heap.size+1) #[.int .i64 0,.int .i64 0,.int .i64 0,.int .i64 0,.int .i64 0,.int .i64 0,.int .i64 0,.int .i64 0,.slice none 0 0,.map none,.slice none 0 0] 123) (hx2:Blk w1 (w.heap.size+1+1) #[.bool false] 4)
  (hb:But No w1 X) (hm:Ob X m (.map #[] 0)) (hv:Vals X b 3 N (fun _=>.int .i64 (-1))) (hq:Ob X q (.cells #[.int .i64 0,.int .i64 0,.int .i64 0,.int .i64 0,.int .i64 0,.int .i64 0,.int .i64 0,.int .i64 0,.slice none 0 0,.map none,.slice none 0 0] 123 (0,0))) (nm:w1.heap.size≤m) (nb:w1.heap.size≤b) (nq:w1.heap.size≤q) :
  LS w s A N c m b q 0 (fun _ _=>none) (fun _=>-1) (((((((((((X.setCell ⟨q,0,none⟩ (.int .i64 s.co)).setCell ⟨q,1,none⟩ (.int .i64 s.po)).setCell ⟨q,2,none⟩ (.int .i64 s.pr)).setCell ⟨q,3,none⟩ (.int .i64 s.re)).setCell ⟨q,4,none⟩ (.int .i64 s.sw)).setCell ⟨q,5,none⟩ (.int .i64 s.fi)).setCell ⟨q,6,none⟩ (.int .i64 s.la)).setCell ⟨q,7,none⟩ (.int .i64 s.rs)).setCell ⟨q,8,none⟩ (.slice A N c)).setCell ⟨q,9,none⟩ (.map (some m))).setCell ⟨q,10,none⟩ (.slice (some ⟨b,0,none⟩) N N)):=by
 have hqB:Blk X q #[.int .i64 0,.int .i64 0,.int .i64 0,.int .i64 0,.int .i64 0,.int .i64 0,.int .i64 0,.int .i64 0,.slice none 0 0,.map none,.slice none 0 0] 123:=hq.h
 obtain⟨hz,hzb⟩:=blk_set11 hqB (.int .i64 s.co) (.int .i64 s.po) (.int .i64 s.pr) (.int .i64 s.re) (.int .i64 s.sw) (.int .i64 s.fi) (.int .i64 s.la) (.int .i64 s.rs) (.slice A N c) (.map (some m)) (.slice (some ⟨b,0,none⟩) N N)
 generalize (((((((((((X.setCell ⟨q,0,none⟩ (.int .i64 s.co)).setCell ⟨q,1,none⟩ (.int .i64 s.po)).setCell ⟨q,2,none⟩ (.int .i64 s.pr)).setCell ⟨q,3,none⟩ (.int .i64 s.re)).setCell ⟨q,4,none⟩ (.int .i64 s.sw)).setCell ⟨q,5,none⟩ (.int .i64 s.fi)).setCell ⟨q,6,none⟩ (.int .i64 s.la)).setCell ⟨q,7,none⟩ (.int .i64 s.rs)).setCell ⟨q,8,none⟩ (.slice A N c)).setCell ⟨q,9,none⟩ (.map (some m))).setCell ⟨q,10,none⟩ (.slice (some ⟨b,0,none⟩) N N))=Y at hz hzb ⊢
 have h2:=hx2.lt
 have hMP:MP X m 0 (fun _ _=>none):=⟨.map [],Joins.ownsMap_empty hm.h,fun a b _ _=>⟨rfl,fun z=>rfl⟩⟩
 have hqm:q≠m:=hMP.ne hqB
 have hqb:q≠b:=fun e=>by
  subst e
  have h3:Blk X q ((List.range N).map (fun _=>Value.int .i64 (-1))).toArray 3:=hv
  unfold Blk at h3 hqB
  rw[hqB] at h3
  simp at h3
 have hB:But No w X:=hB1.trans hb
 have hwY:But No w Y:=hB.andThen' hzb (fun k _ e=>by rw[show k=q from e];omega)
 have hY:But (Just q) w1 Y:=hb.no.trans hzb
 exact⟨⟨hs,hwY,hMP.but hzb (fun e=>hqm e.symm),hv.but hzb (fun e=>hqb e.symm),by omega,by omega,fun j=>by unfold inR;omega⟩,hx0.but hY (fun e=>by have e':w.heap.size=q:=e;omega),hx1.but hY (fun e=>by have e':w.heap.size+1=q:=e;omega),hx2.but hY (fun e=>by have e':w.heap.size+1+1=q:=e;omega),hz,by omega,by omega,by omega,hqm,hqb⟩
theorem ls_new {w w1 Y:World} {s:Sys} {A:Option Addr} {N c m b q:Nat} (hs:RSys w A N c s) (hB1:But No w w1) (hx0:Blk w1 w.heap.size (boxS s A N c) 24) (hx1:Blk w1 (w.heap.size+1) #[.int .i64 0,.int .i64 0,.int .i64 0,.int .i64 0,.int .i64 0,.int .i64 0,.int .i64 0,.int .i64 0,.slice none 0 0,.map none,.slice none 0 0] 123) (hx2:Blk w1 (w.heap.size+1+1) #[.bool false] 4)
  (hb:But No w1 Y) (hq:Ob Y q (.cells (lyA s A N c m b) 123 (0,0))) (hm:Ob Y m (.map #[] 0)) (hv:Vals Y b 3 N (fun _=>.int .i64 (-1))) (nm:w1.heap.size≤m) (nb:w1.heap.size≤b) (nq:w1.heap.size≤q) :
  LS w s A N c m b q 0 (fun _ _=>none) (fun _=>-1) Y:=by
 have hqB:Blk Y q (lyA s A N c m b) 123:=hq.h
 have h2:=hx2.lt
 have hMP:MP Y m 0 (fun _ _=>none):=⟨.map [],Joins.ownsMap_empty hm.h,fun a b _ _=>⟨rfl,fun z=>rfl⟩⟩
 have hqm:q≠m:=hMP.ne hqB
 have hqb:q≠b:=fun e=>by
  subst e
  have h3:Blk Y q ((List.range N).map (fun _=>Value.int .i64 (-1))).toArray 3:=hv
  unfold Blk at h3 hqB
  rw[hqB] at h3
  simp at h3
 exact⟨⟨hs,hB1.trans hb,hMP,hv,by omega,by omega,fun j=>by unfold inR;omega⟩,hx0.but hb (fun f=>f),hx1.but hb (fun f=>f),hx2.but hb (fun f=>f),hqB,by omega,by omega,by omega,hqm,hqb⟩
def ftN (s:Sys) (F:Int→Int→Option Pt) (n:Nat):Nat→Bool
 | 0=>true
 | c+1=>ftN s F n c && fitsV s (onN F (c:Int) n)
theorem ftN_bad {s:Sys} {F:Int→Int→Option Pt} {n c:Nat} (h:fitsV s (onN F (c:Int) n)=false):∀ m,c<m→ftN s F n m=false
 | 0,e=>absurd e (by omega)
 | m+1,e=>by
  rw[ftN]
  by_cases e2:c=m
  ·rw[←e2,h,Bool.and_false]
  ·rw[ftN_bad h m (by omega),Bool.false_and]
def lyB (s:Sys) (L:List (List Pc)):Bool:=right s && (decide (L.length=s.ts.length) && (vOk s (vis (wrp (s.la-1)) L) (vis (wrp (s.la-1)) L).length && ftN s (mpF (vis (wrp (s.la-1)) L)) s.ts.length s.co.toNat))
def lyF (s:Sys) (L:List (List Pc)):Int→Int→Option Pt:=if s.po=1 then rkM (mpF (vis (wrp (s.la-1)) L)) s.ts.length s.co.toNat else mpF (vis (wrp (s.la-1)) L)
def lyW (s:Sys) (L:List (List Pc)):Nat→Int:=mpW (vis (wrp (s.la-1)) L)
def zeroLy : Value:=.agg #[.int .i64 0,.int .i64 0,.int .i64 0,.int .i64 0,.int .i64 0,.int .i64 0,.int .i64 0,.int .i64 0,.slice none 0 0,.map none,.slice none 0 0]
set_option maxRecDepth 100000 in
set_option maxHeartbeats 8000000 in
theorem lay_any (s:Sys) (A:Option Addr) (n c:Nat) (A':Option Addr) (N c':Nat) (L:List (List Pc)) (w:World) (hs:RSys w A n c s) (hl:RPl w A' N L) :
  Calls Tryz.prog 62 #[sysV s A n c,.slice A' N c'] w fun e w'=>But No w w'∧∃ v,e=.returned (.tuple #[v,.bool (lyB s L)])∧(lyB s L=true→∃ m b K,v=lyV s A n c m b∧LY w w' s A n c m b K (lyF s L) (lyW s L))∧(lyB s L=false→v=zeroLy):=by
 have CR:Hid (∀ W,But No w W→Calls Tryz.prog 75 #[sysV s A n c] W fun e w'=>e=.returned (.bool (right s))∧But No W w'):=hid (fun W hb=>right_any s A n c W (hs.no hb))
 have CV:Hid (∀ W,Calls Tryz.prog 63 #[sysV s A n c,.slice A' N c'] W fun e w'=>e=.returned (.func (.func 98) #[] #[.pointer (some ⟨W.heap.size+1,0,none⟩),.pointer (some ⟨W.heap.size+1+1,0,none⟩)])∧But No W w'∧w'.heap.size=W.heap.size+3∧Blk w' (W.heap.size+1) #[.slice A' N c'] 25∧Blk w' (W.heap.size+1+1) #[.int .i64 (wrp (s.la-1))] 3):=hid (fun W=>visit_any s A n c A' N c' W)
 have HS:=hid hs
 have HL:=hid hl
 have hW0:But No w (((w.alloc (.cells (boxS s A n c) 24)).alloc (.cells #[.int .i64 0,.int .i64 0,.int .i64 0,.int .i64 0,.int .i64 0,.int .i64 0,.int .i64 0,.int .i64 0,.slice none 0 0,.map none,.slice none 0 0] 123)).alloc (.cells #[.bool false] 4)):=(((But.refl No w).alloc _).alloc _).alloc _
 have HW0:=hid hW0
 have hx1:=(blk2 w (.cells (boxS s A n c) 24) #[.int .i64 0,.int .i64 0,.int .i64 0,.int .i64 0,.int .i64 0,.int .i64 0,.int .i64 0,.int .i64 0,.slice none 0 0,.map none,.slice none 0 0] 123).alloc (.cells #[.bool false] 4)
 have hx2:=blk2 (w.alloc (.cells (boxS s A n c) 24)) (.cells #[.int .i64 0,.int .i64 0,.int .i64 0,.int .i64 0,.int .i64 0,.int .i64 0,.int .i64 0,.int .i64 0,.slice none 0 0,.map none,.slice none 0 0] 123) #[.bool false] 4
 have hx0:=((Blk.new w (boxS s A n c) 24).alloc (.cells #[.int .i64 0,.int .i64 0,.int .i64 0,.int .i64 0,.int .i64 0,.int .i64 0,.int .i64 0,.int .i64 0,.slice none 0 0,.map none,.slice none 0 0] 123)).alloc (.cells #[.bool false] 4)
 rw[size_alloc1] at hx2
 have HX:=hid (And.intro hx1 hx2)
 have HX0:=hid hx0
 clear hx0 hx1 hx2
 have hlen:=hs.ts.len
 have hLN:=hl.len
 clear hs hl hW0
 unfold boxS at HW0 HX HX0
 unfold sysV at CR CV ⊢
 cases hr:right s with
 | false =>
  rw[hr] at CR
  have HV:Hid (lyB s L=false):=hid (by unfold lyB;rw[hr];rfl)
  clear hr
  go_enter Tryz.func62,Tryz.ntmps62
  go_wp2_with (go_at_call 75;(with_reducible refine(CR.out _ HW0.out).mono ?_);rintro e w1 ⟨rfl,h1⟩;obtain⟨b0,b1,b2,b3,b4,b5,b6,b7,b8⟩:=sys_cells (HX0.out.but h1 (fun f=>f));have HX1:=hid (HX.out.1.but h1 (fun f=>f));have HX2:=hid (HX.out.2.but h1 (fun f=>f));have HB1:=hid (HW0.out.trans h1);obtain⟨⟨f0,f1,f2,f3,f4,f5,f6,f7,f8,f9,f10⟩,g0,g1,g2,g3,g4,g5,g6,g7,g8,g9,g10⟩:=zero_cells HX1.out;have k0:=HX2.out.cell (o:=0) rfl;have k1:=HX2.out.frozen 0;clear h1)
  obtain⟨hz,hzb⟩:=blk_set11 HX1.out (.int .i64 0) (.int .i64 0) (.int .i64 0) (.int .i64 0) (.int .i64 0) (.int .i64 0) (.int .i64 0) (.int .i64 0) (.slice none 0 0) (.map none) (.slice none 0 0)
  generalize (((((((((((w1.setCell ⟨w.heap.size+1,0,none⟩ (.int .i64 0)).setCell ⟨w.heap.size+1,1,none⟩ (.int .i64 0)).setCell ⟨w.heap.size+1,2,none⟩ (.int .i64 0)).setCell ⟨w.heap.size+1,3,none⟩ (.int .i64 0)).setCell ⟨w.heap.size+1,4,none⟩ (.int .i64 0)).setCell ⟨w.heap.size+1,5,none⟩ (.int .i64 0)).setCell ⟨w.heap.size+1,6,none⟩ (.int .i64 0)).setCell ⟨w.heap.size+1,7,none⟩ (.int .i64 0)).setCell ⟨w.heap.size+1,8,none⟩ (.slice none 0 0)).setCell ⟨w.heap.size+1,9,none⟩ (.map none)).setCell ⟨w.heap.size+1,10,none⟩ (.slice none 0 0))=W2 at hz hzb ⊢
  have hy:=(HX2.out.but hzb (fun e=>by have e':w.heap.size+1+1=w.heap.size+1:=e;omega)).set 0 (.bool false)
  have hz2:=hz.other (a:=⟨w.heap.size+1+1,0,none⟩) (by show w.heap.size+1≠w.heap.size+1+1;omega) (.bool false)
  have hb2:=(hzb.mono (S':=fun k=>w.heap.size≤k) (fun k _ e=>by rw[show k=_ from e];omega)).setCell (p:=⟨w.heap.size+1+1,0,none⟩) (show w.heap.size≤w.heap.size+1+1 by omega) (.bool false)
  have hbn:=HB1.out.andThen' hb2 (fun k _ e=>e)
  obtain⟨⟨e0,e1,e2,e3,e4,e5,e6,e7,e8,e9,e10⟩,_⟩:=zero_cells hz2
  have ey:=hy.cell (o:=0) rfl
  refine bodyPost_ret (v:=.tuple #[zeroLy,.bool false]) (by simp[results,Tryz.results62,go_sem,e0,e1,e2,e3,e4,e5,e6,e7,e8,e9,e10,ey,zeroLy]) rfl ?_
  rw[HV.out]
  exact⟨hbn,zeroLy,rfl,fun h=>(by cases h),fun _=>rfl⟩
 | true =>
  rw[hr] at CR
  by_cases hNn:N=n
  ·subst hNn
   have q0:((N:Int) != (N:Int))=false:=by simp
   have HR:=hid hr
   have HN:Hid (1≤N∧N≤24):=hid (by have:=(right_parts hr).1;unfold vWhole at this;simp only[Bool.and_eq_true,wi_true] at this;omega)
   clear hr
   refine(callsIn_wide (n:=8)).1 ?_
   refine callsIn_of_wp_marks Tryz.func62 rfl trivial ?_ rfl
   simp only[Tryz.ntmps62,List.size_toArray,List.length_cons,List.length_nil,Nat.reduceAdd,Nat.reduceSub,Array.replicate_succ,Array.replicate_zero,List.push_toArray,List.append_toArray,List.nil_append,List.cons_append]
   refine wpIn_wide.2 ?_
   go_upto_region 3 with(go_at_call 75;(with_reducible refine(CR.out _ HW0.out).mono ?_);rintro e w1 ⟨rfl,h1⟩;have HX00:=hid (HX0.out.but h1 (fun f=>f));have HX1:=hid (HX.out.1.but h1 (fun f=>f));have HX2:=hid (HX.out.2.but h1 (fun f=>f));have HB1:=hid (HW0.out.trans h1);obtain⟨b0,b1,b2,b3,b4,b5,b6,b7,b8⟩:=sys_cells HX00.out;clear h1)
   have hmm:=@run_makeMap Tryz.prog
   have CRP:Hid (∀ W ax,W.cell? ⟨ax,0,none⟩=some (.int .i64 (-1))→Calls Tryz.prog 93 #[.slice (some ⟨ax,0,none⟩) 1 1,.int .i64 (N:Int)] W fun e w'=>∃ b,e=.returned (.slice (some ⟨b,0,none⟩) N N)∧CE W w' b N (fun _=>-1)):=hid (fun W ax hx=>repeat_any HN.out.1 HN.out.2 W ax hx)
   have hq:S9 w1 w.heap.size s A N c:=⟨b0,b1,b2,b3,b4,b5,b6,b7,b8⟩
   have HQ:=hid hq
   have hw1:w.heap.size<w1.heap.size:=HX00.out.lt
   clear b0 b1 b2 b3 b4 b5 b6 b7 b8
   have HXB:Hid (Blk w1 w.heap.size (boxS s A N c) 24):=hid (by unfold boxS;exact HX00.out)
   go_cut [6] from 23 to 29 (fun u wx=>∃ m b q,u=.pointer (some ⟨q,0,none⟩)∧Hid (LS w s A N c m b q 0 (fun _ _=>none) (fun _=>-1) wx))
   case first =>
    rename_i JJ KK hJJ hKK
    go_region_held3 (fun w'=>S9 w' w.heap.size s A N c) (first | (with_reducible assumption) | (with_reducible refine s9_set11 (by with_reducible assumption) ?_;omega) | exact s9_ald (by with_reducible assumption) _ | exact s9_al (by with_reducible assumption) _ | exact s9_al0 (by with_reducible assumption) _ | exact s9_al0d (by with_reducible assumption) _ | exact s9_al2 (by with_reducible assumption) _ _ | exact s9_al (by assumption) _ | exact s9_al0 (by assumption) _ | assumption) ((go_at_call 93;(with_reducible refine(CRP.out _ _ (by first | exact ob_cell (ob_drew ob_n0) | exact ob_cell (ob_drew (ob_al ob_n0)) | exact ob_cell (ob_drew (ob_al (ob_al ob_n0))) | exact ob_cell (ob_drew ob_n1) | exact ob_cell (ob_drew (ob_al ob_n1)) | exact ob_cell (ob_drew ob_n2))).mono ?_);rintro e w2 ⟨bq,rfl,hce⟩;have hq2:S9 w2 w.heap.size s A N c:=s9_no (by assumption) hce.but;have hs2:w1.heap.size≤w2.heap.size:=(by have:=hce.but.size;simp at this;omega);have hb12:But No w1 w2:=(by refine But.trans ?_ hce.but;repeat (first | (with_reducible exact But.refl _ _) | (with_reducible refine But.drew ?_) | (with_reducible refine But.alloc ?_ _)));have HB2:=hid hb12;have HBQ:Hid (w1.heap.size≤bq):=hid (by have:=hce.h;simp at this;omega);have HCE:=hid hce;clear hb12;first
     | (have hly:Ob w2 w1.heap.size (.cells #[.int .i64 0,.int .i64 0,.int .i64 0,.int .i64 0,.int .i64 0,.int .i64 0,.int .i64 0,.int .i64 0,.slice none 0 0,.map none,.slice none 0 0] 123 (0,0)):=ob_but (ob_drew (ob_al ob_n0)) hce.but;obtain⟨⟨f0,f1,f2,f3,f4,f5,f6,f7,f8,f9,f10⟩,g0,g1,g2,g3,g4,g5,g6,g7,g8,g9,g10⟩:=zero_cells (show Blk w2 w1.heap.size #[.int .i64 0,.int .i64 0,.int .i64 0,.int .i64 0,.int .i64 0,.int .i64 0,.int .i64 0,.int .i64 0,.slice none 0 0,.map none,.slice none 0 0] 123 from hly.h);obtain⟨⟨l0,l1,l2,l3,l4,l5,l6,l7,l8,l9,l10⟩,m0,m1,m2,m3,m4,m5,m6,m7,m8,m9,m10⟩:=zero_cells (show Blk (w2.alloc (.map #[] 0)) w1.heap.size #[.int .i64 0,.int .i64 0,.int .i64 0,.int .i64 0,.int .i64 0,.int .i64 0,.int .i64 0,.int .i64 0,.slice none 0 0,.map none,.slice none 0 0] 123 from (ob_al hly).h);have HLY:=hid hly;clear hly)
     | (have hly:Ob w2 w1.heap.size (.cells #[.int .i64 0,.int .i64 0,.int .i64 0,.int .i64 0,.int .i64 0,.int .i64 0,.int .i64 0,.int .i64 0,.slice none 0 0,.map none,.slice none 0 0] 123 (0,0)):=ob_but (ob_drew (ob_al (ob_al ob_n0))) hce.but;obtain⟨⟨f0,f1,f2,f3,f4,f5,f6,f7,f8,f9,f10⟩,g0,g1,g2,g3,g4,g5,g6,g7,g8,g9,g10⟩:=zero_cells (show Blk w2 w1.heap.size #[.int .i64 0,.int .i64 0,.int .i64 0,.int .i64 0,.int .i64 0,.int .i64 0,.int .i64 0,.int .i64 0,.slice none 0 0,.map none,.slice none 0 0] 123 from hly.h);obtain⟨⟨l0,l1,l2,l3,l4,l5,l6,l7,l8,l9,l10⟩,m0,m1,m2,m3,m4,m5,m6,m7,m8,m9,m10⟩:=zero_cells (show Blk (w2.alloc (.map #[] 0)) w1.heap.size #[.int .i64 0,.int .i64 0,.int .i64 0,.int .i64 0,.int .i64 0,.int .i64 0,.int .i64 0,.int .i64 0,.slice none 0 0,.map none,.slice none 0 0] 123 from (ob_al hly).h);have HLY:=hid hly;clear hly)
     | (have hly:Ob w2 (w1.heap.size+1) (.cells #[.int .i64 0,.int .i64 0,.int .i64 0,.int .i64 0,.int .i64 0,.int .i64 0,.int .i64 0,.int .i64 0,.slice none 0 0,.map none,.slice none 0 0] 123 (0,0)):=ob_but (ob_drew (ob_n1)) hce.but;obtain⟨⟨f0,f1,f2,f3,f4,f5,f6,f7,f8,f9,f10⟩,g0,g1,g2,g3,g4,g5,g6,g7,g8,g9,g10⟩:=zero_cells (show Blk w2 (w1.heap.size+1) #[.int .i64 0,.int .i64 0,.int .i64 0,.int .i64 0,.int .i64 0,.int .i64 0,.int .i64 0,.int .i64 0,.slice none 0 0,.map none,.slice none 0 0] 123 from hly.h);obtain⟨⟨l0,l1,l2,l3,l4,l5,l6,l7,l8,l9,l10⟩,m0,m1,m2,m3,m4,m5,m6,m7,m8,m9,m10⟩:=zero_cells (show Blk (w2.alloc (.map #[] 0)) (w1.heap.size+1) #[.int .i64 0,.int .i64 0,.int .i64 0,.int .i64 0,.int .i64 0,.int .i64 0,.int .i64 0,.int .i64 0,.slice none 0 0,.map none,.slice none 0 0] 123 from (ob_al hly).h);have HLY:=hid hly;clear hly)
     | (have hly:Ob w2 (w1.heap.size+1) (.cells #[.int .i64 0,.int .i64 0,.int .i64 0,.int .i64 0,.int .i64 0,.int .i64 0,.int .i64 0,.int .i64 0,.slice none 0 0,.map none,.slice none 0 0] 123 (0,0)):=ob_but (ob_drew (ob_al ob_n1)) hce.but;obtain⟨⟨f0,f1,f2,f3,f4,f5,f6,f7,f8,f9,f10⟩,g0,g1,g2,g3,g4,g5,g6,g7,g8,g9,g10⟩:=zero_cells (show Blk w2 (w1.heap.size+1) #[.int .i64 0,.int .i64 0,.int .i64 0,.int .i64 0,.int .i64 0,.int .i64 0,.int .i64 0,.int .i64 0,.slice none 0 0,.map none,.slice none 0 0] 123 from hly.h);obtain⟨⟨l0,l1,l2,l3,l4,l5,l6,l7,l8,l9,l10⟩,m0,m1,m2,m3,m4,m5,m6,m7,m8,m9,m10⟩:=zero_cells (show Blk (w2.alloc (.map #[] 0)) (w1.heap.size+1) #[.int .i64 0,.int .i64 0,.int .i64 0,.int .i64 0,.int .i64 0,.int .i64 0,.int .i64 0,.int .i64 0,.slice none 0 0,.map none,.slice none 0 0] 123 from (ob_al hly).h);have HLY:=hid hly;clear hly)
     | (have hly:Ob w2 (w1.heap.size+1+1) (.cells #[.int .i64 0,.int .i64 0,.int .i64 0,.int .i64 0,.int .i64 0,.int .i64 0,.int .i64 0,.int .i64 0,.slice none 0 0,.map none,.slice none 0 0] 123 (0,0)):=ob_but (ob_drew (ob_n2)) hce.but;obtain⟨⟨f0,f1,f2,f3,f4,f5,f6,f7,f8,f9,f10⟩,g0,g1,g2,g3,g4,g5,g6,g7,g8,g9,g10⟩:=zero_cells (show Blk w2 (w1.heap.size+1+1) #[.int .i64 0,.int .i64 0,.int .i64 0,.int .i64 0,.int .i64 0,.int .i64 0,.int .i64 0,.int .i64 0,.slice none 0 0,.map none,.slice none 0 0] 123 from hly.h);obtain⟨⟨l0,l1,l2,l3,l4,l5,l6,l7,l8,l9,l10⟩,m0,m1,m2,m3,m4,m5,m6,m7,m8,m9,m10⟩:=zero_cells (show Blk (w2.alloc (.map #[] 0)) (w1.heap.size+1+1) #[.int .i64 0,.int .i64 0,.int .i64 0,.int .i64 0,.int .i64 0,.int .i64 0,.int .i64 0,.int .i64 0,.slice none 0 0,.map none,.slice none 0 0] 123 from (ob_al hly).h);have HLY:=hid hly;clear hly)
     | skip))
    all_goals (go_step;refine hKK _ _ (Met.intro (hJJ _ _ ?_));refine⟨_,_,_,_,_,_,_,_,?_,rfl⟩;(repeat apply Exists.intro);refine⟨rfl,?_⟩;refine hid ?_;(first
     | (with_reducible apply ls_of HS.out HB1.out HXB.out HX1.out HX2.out)
     | (with_reducible apply ls_new HS.out HB1.out HXB.out HX1.out HX2.out)) <;> first
     | (with_reducible exact HB2.out) | (with_reducible exact HB2.out.alloc _) | (with_reducible exact(HB2.out.alloc _).alloc _)
     | (with_reducible exact HBQ.out)
     | (with_reducible exact HLY.out) | (with_reducible exact ob_al HLY.out) | (with_reducible exact ob_n0) | (with_reducible exact ob_al ob_n0) | (with_reducible exact ob_n1)
     | (with_reducible exact ob_but (ob_drew (ob_n0)) HCE.out.but) | (with_reducible exact ob_but (ob_drew (ob_al ob_n0)) HCE.out.but) | (with_reducible exact ob_but (ob_drew (ob_al (ob_al ob_n0))) HCE.out.but) | (with_reducible exact ob_but (ob_drew (ob_n1)) HCE.out.but) | (with_reducible exact ob_but (ob_drew (ob_al ob_n1)) HCE.out.but) | (with_reducible exact ob_but (ob_drew (ob_n2)) HCE.out.but) | (with_reducible exact ob_al (ob_but (ob_drew (ob_n0)) HCE.out.but)) | (with_reducible exact ob_al (ob_but (ob_drew (ob_al ob_n0)) HCE.out.but)) | (with_reducible exact ob_al (ob_but (ob_drew (ob_al (ob_al ob_n0))) HCE.out.but)) | (with_reducible exact ob_al (ob_but (ob_drew (ob_n1)) HCE.out.but)) | (with_reducible exact ob_al (ob_but (ob_drew (ob_al ob_n1)) HCE.out.but)) | (with_reducible exact ob_al (ob_but (ob_drew (ob_n2)) HCE.out.but))
     | exact HCE.out.v | exact HCE.out.v.but ((But.refl No _).alloc _) (fun f=>f) | exact HCE.out.v.but (((But.refl No _).alloc _).alloc _) (fun f=>f) | omega)
   obtain⟨m,b,q,rfl,HLS⟩:=hcut
   obtain⟨b0,b1,b2,b3,b4,b5,b6,b7,b8⟩:=sys_cells HLS.out.x0
   clear hq hmm CRP HQ HXB hw1
   go_wp2_with (go_at_call 63;(with_reducible refine(CV.out _).mono ?_);rintro e w3 ⟨rfl,hb3,hz3,hp3,hl3⟩)
   clear b0 b1 b2 b3 b4 b5 b6 b7 b8
   refine(wpIn_wide (n:=8)).1 ?_
   have hmw:m<wc.heap.size:=HLS.out.ly.map.lt
   have hbw:b<wc.heap.size:=HLS.out.ly.whr.lt
   have hqw:q<wc.heap.size:=HLS.out.x3.lt
   have hom:=HLS.out.om
   have hob:=HLS.out.ob
   have hoq:=HLS.out.oq
   have HLS3:=hid (HLS.out.no hb3)
   have HB3:Hid (But No w w3):=hid HLS3.out.ly.but
   have HP3:=hid hp3
   have HL3:=hid hl3
   obtain⟨lt,hlt⟩:∃ lt,wrp (s.la-1)=lt:=⟨_,rfl⟩
   rw[hlt] at HL3
   have HLT:=hid hlt
   have HVI:Hid (∀ x ∈ vis lt L,x.i<N∧inR x.p.co∧inR x.p.bu∧inR x.p.de):=hid (fun x hx=>by
    obtain⟨i,l,k,y,h1,h2,rfl⟩:=vis_mem hx
    obtain⟨_,_,A4,c4,_,_,_,_,hp⟩:=HL.out.at1 h1
    obtain⟨g1,g2,g3,_⟩:=hp.fit y (List.mem_of_getElem? h2)
    exact⟨by show i<N;have:=(List.getElem?_eq_some_iff.1 h1).1;omega,g1,g2,g3⟩)
   have HPL:Hid (∀ pre:List {x:Pt // x ∈ vis lt L},vOk s (vl pre) (vl pre).length=true→(vl pre).length≤192):=hid (fun pre h=>vOk_few (by have:=(right_nums HR.out).1;omega) (fun x hx=>by
    obtain⟨y,_,rfl⟩:=List.mem_map.1 hx
    have:=(HVI.out y.1 y.2).1
    have:=HN.out;omega) h)
   have HTS:Hid (s.ts.length=N):=hid HS.out.ts.len
   have CSE:Hid (∀ (x:Pt) W,Calls Tryz.prog 64 #[ptV x] W fun e w'=>e=.returned (keyV x.p.co (x.i:Int))∧But No W w'):=hid (fun x W=>seat_any x W)
   have CRG:Hid (∀ x ∈ vis lt L,∀ W,But No w W→Calls Tryz.prog 94 #[ptV x,sysV s A N c] W fun e w'=>e=.returned (.bool (rgV s (s.ts.getD x.i ts0) x))∧But No W w'):=hid (fun x hx W hW=>rgt_any x s A N c _ W (HS.out.no hW) (by
    have h1:=(HVI.out x hx).1
    have h2:x.i<s.ts.length:=by rw[HTS.out];exact h1
    rw[List.getElem?_eq_getElem h2,List.getD,List.getElem?_eq_getElem h2];rfl))
   clear hb3 hp3 hl3 hlt hLN CR CV HLS
   refine wpIn_rangeFunc_ownH rfl (by omega) (gf:=98) (lb:=#[.pointer (some ⟨wc.heap.size+1,0,none⟩),.pointer (some ⟨wc.heap.size+1+1,0,none⟩)]) rfl trivial (enters_of Tryz.func98 (by kernel_rfl) rfl)
    (visit_stops (8-1) (by omega) (wc.heap.size+1) (wc.heap.size+1+1) lt A' N c' L w HL.out (TN w.heap.size m b) (tn_alloc _ _ _) w3 HB3.out (fun W hW=>⟨fun k h=>tn_lt (by have:=hW.size;omega) (by have:=hW.size;omega) h,fun k h1 h2=>by have:=h2.1;omega,tn_not (HP3.out.but hW (fun f=>f)) (by omega) (by omega),tn_not (HL3.out.but hW (fun f=>f)) (by omega) (by omega)⟩) HP3.out HL3.out)
    KT.trans (fun X l o o' hl ho hc _=>kt_put X l o o' (by have:=HB3.out.size;omega) ho hc) (Below.refl _ _) (fun _=>rfl)
    (fun pre W=>LS w s A N c m b q pre.length (mpF (vl pre)) (mpW (vl pre)) W∧w3.heap.size≤W.heap.size∧vOk s (vl pre) (vl pre).length=true)
    (fun c pre W=>c=.ret∧But No w W∧Blk W (w.heap.size+1) #[.int .i64 0,.int .i64 0,.int .i64 0,.int .i64 0,.int .i64 0,.int .i64 0,.int .i64 0,.int .i64 0,.slice none 0 0,.map none,.slice none 0 0] 123∧Blk W (w.heap.size+1+1) #[.bool false] 4∧vOk s (vl pre) (vl pre).length=false)
    (fun st X Y row hs hg hr=>⟨hs.1.far ((But.refl (fun k=>row=some k) X).grown hg (fun k e=>.inl e)) (Z:=w3.heap.size) (by omega) (by omega) (by omega) (fun k e=>(hr k e).1),Nat.le_trans hs.2.1 hg.size,hs.2.2⟩)
    (fun c st X Y row hs hg hr=>⟨hs.1,hs.2.1.andThen' ((But.refl (fun k=>row=some k) X).grown hg (fun k e=>.inl e)) (fun k _ e=>by have:=(hr k e).1;have:=HB3.out.size;omega),hs.2.2.1.but ((But.refl (fun k=>row=some k) X).grown hg (fun k e=>.inl e)) (fun e=>by have:=(hr _ e).1;omega),hs.2.2.2.1.but ((But.refl (fun k=>row=some k) X).grown hg (fun k e=>.inl e)) (fun e=>by have:=(hr _ e).1;omega),hs.2.2.2.2⟩)
    ⟨HLS3.out,Nat.le_refl _,rfl⟩
    (fun x a' W=>∃ Bx,w3.heap.size≤Bx∧Blk W Bx (ptA x.1) 130∧a' = { tmps:=#[.agg #[.int .i64 s.co,.int .i64 s.po,.int .i64 s.pr,.int .i64 s.re,.int .i64 s.sw,.int .i64 s.fi,.int .i64 s.la,.int .i64 s.rs,.slice A N c],.slice A' N c',.pointer (some ⟨w.heap.size,0,none⟩),undef,.pointer (some ⟨w.heap.size+1,0,none⟩),.pointer (some ⟨w.heap.size+1+1,0,none⟩),.pointer (some ⟨q,0,none⟩),.pointer (some ⟨Bx,0,none⟩),undef,undef,undef,.agg #[.int .i64 s.co,.int .i64 s.po,.int .i64 s.pr,.int .i64 s.re,.int .i64 s.sw,.int .i64 s.fi,.int .i64 s.la,.int .i64 s.rs,.slice A N c],.bool true,.bool false,.bool false,.slice A' N c',.int .i64 (N:Int),.pointer (some ⟨w.heap.size,8,none⟩),.slice A N c,.int .i64 (N:Int),.bool false,.bool false,undef,u23,u24,u25,u26,u27,u28,u29,.agg #[.int .i64 s.co,.int .i64 s.po,.int .i64 s.pr,.int .i64 s.re,.int .i64 s.sw,.int .i64 s.fi,.int .i64 s.la,.int .i64 s.rs,.slice A N c],.slice A' N c',.func (.func 98) #[] #[.pointer (some ⟨wc.heap.size+1,0,none⟩),.pointer (some ⟨wc.heap.size+1+1,0,none⟩)],ptV x.1,undef,undef,undef,undef,undef,undef,undef,undef,undef,undef,undef,undef,undef,undef,undef,undef,undef,undef,undef,undef,undef,undef,undef,undef,undef,undef,undef,undef,undef,undef,undef,undef,undef,undef,undef,undef,undef],defers:=[] })
    (fun x a' st X Y row hs hg hr=>by obtain⟨Bx,h1,h2,h3⟩:=hs;exact⟨Bx,h1,rsp.blk_turn h2 hg (fun k e=>(hr k e).2),h3⟩)
    ?assign ?body ?done ?stop
   case assign =>
    rintro lp pre x W K ⟨hi,hz,hv⟩ hK
    dsimp only[ptV,ptA]
    gi_wp2
    have hbA:=(But.refl No W).alloc (.cells (ptA x.1) 130)
    exact hK _ _ ((rsp.keeps_but hbA).from _) (kt_of hbA.no (by omega) (by omega)) ⟨hi.no hbA,Nat.le_trans hz hbA.size,hv⟩ ⟨W.heap.size,hz,Blk.new W _ _,rfl⟩
   case body =>
    rintro lp pre x a' W hl ⟨r,hr⟩ ⟨hi,hz,hv⟩ ⟨Bx,hBx,hbx,rfl⟩ hlt9
    have hlen:pre.length≤192:=by have:=HPL.out pre hv;rw[vl_len] at this;exact this
    have HLEN:=hid hlen
    obtain⟨hxi,hxc,hxb,hxd⟩:=HVI.out x.1 x.2
    have HSN:Hid (vOk s (vl (pre ++ [x])) (vl (pre ++ [x])).length=okB s (vl pre) x.1):=hid (by rw[vl_snoc,vOk_snoc,hv,Bool.true_and])
    have HFN:Hid (mpF (vl (pre ++ [x]))=upF (mpF (vl pre)) x.1.p.co (x.1.i:Int) (zpP x.1)∧mpW (vl (pre ++ [x]))=(fun j=>if whB x.1=true∧j=x.1.i then x.1.p.co else mpW (vl pre) j)∧(pre ++ [x]).length=pre.length+1):=hid ⟨by rw[vl_snoc,mpF_snoc],by rw[vl_snoc,mpW_snoc],by simp⟩
    have HI:=hid hi
    have HZ:=hid hz
    have HBX:=hid hbx
    have hiN:inR (x.1.i:Int):=by have:=HN.out;unfold inR;omega
    have CRX:=hid (fun W' (hW':But No w W')=>CRG.out x.1 x.2 W' hW')
    have CSX:=hid (fun W'=>CSE.out x.1 W')
    have HPUT:Hid (∀ W',But No W W'→okB s (vl pre) x.1=true→Calls Tryz.prog 95 #[lyV s A N c m b,ptV x.1] W' fun e w'=>(∃ v,e=.returned v)∧LS w s A N c m b q (pre ++ [x]).length (mpF (vl (pre ++ [x]))) (mpW (vl (pre ++ [x]))) w'∧But (fun k=>k=m∨k=b) W' w'∧vOk s (vl (pre ++ [x])) (vl (pre ++ [x])).length=true):=hid (fun W' hW' hok=>by
     have hy:=HI.out.no hW'
     refine(put_any hy.ly (by have:=HLEN.out;omega) x.1 hxc hxi (by have:=HN.out;omega)).mono ?_
     rintro e w9 ⟨h1,h2,h3⟩
     rw[HFN.out.1,HFN.out.2.1,HFN.out.2.2]
     exact⟨h1,hy.step h2 h3,h3,by rw[HSN.out];exact hok⟩)
    have HOKB:Hid (okB s (vl pre) x.1=(!(mpF (vl pre) x.1.p.co (x.1.i:Int)).isSome && rgV s (s.ts.getD x.1.i ts0) x.1)):=hid rfl
    have HBAD:Hid (okB s (vl pre) x.1=false→vOk s (vl (pre ++ [x])) (vl (pre ++ [x])).length=false):=hid (fun h=>by rw[HSN.out];exact h)
    have KEEP0:Hid (∀ W',But No W W'→(W'.cell? ⟨q,9,none⟩=some (.map (some m))∧Cl W' Bx 0 x.1)∧(Instr.lookup 121 (.map (some m)) (keyV x.1.p.co (x.1.i:Int)) true).run Tryz.prog W'=.ok (.tuple #[ptV (ov (mpF (vl pre) x.1.p.co (x.1.i:Int))),.bool (mpF (vl pre) x.1.p.co (x.1.i:Int)).isSome]) W'):=hid (fun W' hW'=>⟨⟨(HI.out.no hW').x3.cell (o:=9) rfl,Blk.cl (HBX.out.but hW' (fun f=>f))⟩,(HI.out.no hW').ly.map.look hxc hiN⟩)
    obtain⟨TK,hTK⟩:∃ TK,(mpF (vl pre) x.1.p.co (x.1.i:Int)).isSome=TK:=⟨_,rfl⟩
    obtain⟨YY,hYY⟩:∃ YY,ov (mpF (vl pre) x.1.p.co (x.1.i:Int))=YY:=⟨_,rfl⟩
    obtain⟨RG,hRG⟩:∃ RG,rgV s (s.ts.getD x.1.i ts0) x.1=RG:=⟨_,rfl⟩
    rw[hTK,hYY] at KEEP0
    rw[hTK,hRG] at HOKB
    rw[hRG] at CRX
    clear hTK hYY hRG hiN hxi hxc hxb hxd hi hz hbx hv hlen hlt9 HLEN HSN HFN hl hr
    obtain⟨⟨⟨x0,x1,x2,x3,x4⟩,xi,xk,xl,xd,xj⟩,hx⟩:=x
    obtain⟨⟨y0,y1,y2,y3,y4⟩,yi,yk,yl,yn,yj⟩:=YY
    dsimp only[ptV,ptA,keyV] at *
    have KEEP:Hid (∀ W',But No W W'→W'.cell? ⟨q,9,none⟩=some (.map (some m))∧(W'.cell? ⟨Bx,0,none⟩=some (.int .i64 x0)∧W'.cell? ⟨Bx,1,none⟩=some (.int .i64 x1)∧W'.cell? ⟨Bx,2,none⟩=some (.int .i64 x2)∧W'.cell? ⟨Bx,3,none⟩=some (.int .i64 x3)∧W'.cell? ⟨Bx,4,none⟩=some (.bool x4)∧W'.cell? ⟨Bx,5,none⟩=some (.int .i64 (xi:Int))∧W'.cell? ⟨Bx,6,none⟩=some (.int .i64 (xk:Int))∧W'.cell? ⟨Bx,7,none⟩=some (.bool xl)∧W'.cell? ⟨Bx,8,none⟩=some (.int .i64 xd)∧W'.cell? ⟨Bx,9,none⟩=some (.int .i64 xj))∧(Instr.lookup 121 (.map (some m)) (.agg #[.int .i64 x0,.int .i64 (xi:Int)]) true).run Tryz.prog W'=.ok (.tuple #[.agg #[.int .i64 y0,.int .i64 y1,.int .i64 y2,.int .i64 y3,.bool y4,.int .i64 (yi:Int),.int .i64 (yk:Int),.bool yl,.int .i64 yn,.int .i64 yj],.bool TK]) W'):=hid (fun W' hW'=>by
     obtain⟨⟨h1,h2⟩,h3⟩:=KEEP0.out W' hW'
     obtain⟨c0,c1,c2,c3,c4,c5,c6,c7,c8,c9⟩:=h2
     simp only[Nat.zero_add] at c0 c1 c2 c3 c4 c5 c6 c7 c8 c9
     exact⟨h1,⟨c0,c1,c2,c3,c4,c5,c6,c7,c8,c9⟩,h3⟩)
    clear KEEP0
    cases TK with
    | true =>
     gi_upto_region 6 with fail
     refine region_round_held (S:=(fun w'=>w'.cell? ⟨q,9,none⟩=some (.map (some m))∧(w'.cell? ⟨Bx,0,none⟩=some (.int .i64 x0)∧w'.cell? ⟨Bx,1,none⟩=some (.int .i64 x1)∧w'.cell? ⟨Bx,2,none⟩=some (.int .i64 x2)∧w'.cell? ⟨Bx,3,none⟩=some (.int .i64 x3)∧w'.cell? ⟨Bx,4,none⟩=some (.bool x4)∧w'.cell? ⟨Bx,5,none⟩=some (.int .i64 (xi:Int))∧w'.cell? ⟨Bx,6,none⟩=some (.int .i64 (xk:Int))∧w'.cell? ⟨Bx,7,none⟩=some (.bool xl)∧w'.cell? ⟨Bx,8,none⟩=some (.int .i64 xd)∧w'.cell? ⟨Bx,9,none⟩=some (.int .i64 xj))∧(Instr.lookup 121 (.map (some m)) (.agg #[.int .i64 x0,.int .i64 (xi:Int)]) true).run Tryz.prog w'=.ok (.tuple #[.agg #[.int .i64 y0,.int .i64 y1,.int .i64 y2,.int .i64 y3,.bool y4,.int .i64 (yi:Int),.int .i64 (yk:Int),.bool yl,.int .i64 yn,.int .i64 yj],.bool true]) w')) (by kernel_rfl) (by kernel_rfl) (KEEP.out _ (But.refl _ W).drew) (fun hHeld=>?_)
     refine wpAnyH_take (i:=0) (v:=?va1) rfl (by kernel_rfl) (by kernel_rfl) (by kernel_rfl) (fun _ _ _ h=>(by cases h.1)) (Or.inl ⟨by rfl,?hya1⟩) (by assumption) ?resta1
     case hya1=>(intro w hSw;(try dsimp only at hSw);go_simp <;> with_reducible rfl)
     try simp only[Act.put,List.setIfInBounds_toArray,List.set_cons_zero,List.set_cons_succ]
     refine wpAnyH_take (i:=1) (v:=?va2) rfl (by kernel_rfl) (by kernel_rfl) (by kernel_rfl) (fun _ _ _ h=>(by cases h.1)) (Or.inl ⟨by rfl,?hya2⟩) (by assumption) ?resta2
     case hya2=>(intro w hSw;(try dsimp only at hSw);go_simp <;> with_reducible rfl)
     try simp only[Act.put,List.setIfInBounds_toArray,List.set_cons_zero,List.set_cons_succ]
     refine wpAnyH_take (i:=2) (v:=?va3) rfl (by kernel_rfl) (by kernel_rfl) (by kernel_rfl) (fun _ _ _ h=>(by cases h.1)) (Or.inl ⟨by rfl,?hya3⟩) (by assumption) ?resta3
     case hya3=>(intro w hSw;(try dsimp only at hSw);go_simp <;> with_reducible rfl)
     try simp only[Act.put,List.setIfInBounds_toArray,List.set_cons_zero,List.set_cons_succ]
     refine wpAnyH_ready (rs:=[3,8]) (by kernel_rfl) (by simp) ?_
     refine AllReadyH.cons rfl (fun K hK=>?_) ?_
     ·skip
      (go_simp;go_at_call 64;(with_reducible refine(CSX.out _).mono ?_);rintro e wC ⟨rfl,hbC⟩;have HBC:Hid (But No W wC):=hid (by refine But.trans ?_ hbC;repeat (first | (with_reducible exact But.refl _ _) | (with_reducible refine But.drew ?_) | (with_reducible refine But.alloc ?_ _)));clear hbC)
      refine hK.out _ _ (KEEP.out _ HBC.out) (fun hHeld=>?_)
      clear hK K
      try simp only[Act.put,List.setIfInBounds_toArray,List.set_cons_zero,List.set_cons_succ]
      refine wpAnyH_take (i:=4) (v:=?va4) rfl (by kernel_rfl) (by kernel_rfl) (by kernel_rfl) (fun _ _ _ h=>(by cases h.1)) (Or.inl ⟨by rfl,?hya4⟩) (by assumption) ?resta4
      case hya4=>(intro w hSw;(try dsimp only at hSw);go_simp <;> with_reducible rfl)
      try simp only[Act.put,List.setIfInBounds_toArray,List.set_cons_zero,List.set_cons_succ]
      refine wpAnyH_take (i:=5) (v:=?va5) rfl (by kernel_rfl) (by kernel_rfl) (by kernel_rfl) (fun _ _ _ h=>(by cases h.1)) (Or.inl ⟨by rfl,?hya5⟩) (by assumption) ?resta5
      case hya5=>(intro w hSw;(try dsimp only at hSw);go_simp <;> with_reducible rfl)
      try simp only[Act.put,List.setIfInBounds_toArray,List.set_cons_zero,List.set_cons_succ]
      refine wpAnyH_take (i:=6) (v:=?va6) rfl (by kernel_rfl) (by kernel_rfl) (by kernel_rfl) (fun _ _ _ h=>(by cases h.1)) (Or.inl ⟨by rfl,?hya6⟩) (by assumption) ?resta6
      case hya6=>(intro w hSw;(try dsimp only at hSw);go_simp <;> with_reducible rfl)
      try simp only[Act.put,List.setIfInBounds_toArray,List.set_cons_zero,List.set_cons_succ]
      refine wpAnyH_take (i:=7) (v:=?va7) rfl (by kernel_rfl) (by kernel_rfl) (by kernel_rfl) (fun _ _ _ h=>(by cases h.1)) (Or.inl ⟨by rfl,?hya7⟩) (by assumption) ?resta7
      case hya7=>(intro w hSw;(try dsimp only at hSw);go_simp <;> with_reducible rfl)
      try simp only[Act.put,List.setIfInBounds_toArray,List.set_cons_zero,List.set_cons_succ]
      refine wpAnyH_ready (rs:=[8]) (by kernel_rfl) (by simp) ?_
      refine AllReadyH.cons rfl (fun K hK=>?_) AllReadyH.nil
      go_simp
      refine hK.out _ _ (KEEP.out _ (HBC.out.alloc _)) (fun hHeld=>?_)
      clear hK K
      try simp only[Act.put,List.setIfInBounds_toArray,List.set_cons_zero,List.set_cons_succ]
      refine wpAnyH_ready (rs:=[9]) (by kernel_rfl) (by simp) ?_
      refine AllReadyH.cons rfl (fun K hK=>?_) AllReadyH.nil
      go_simp
      refine hK.out _ _ (KEEP.out _ (HBC.out.alloc _)) (fun hHeld=>?_)
      clear hK K
      try simp only[Act.put,List.setIfInBounds_toArray,List.set_cons_zero,List.set_cons_succ]
      refine wpAnyH_take (i:=10) (v:=?va8) rfl (by kernel_rfl) (by kernel_rfl) (by kernel_rfl) (fun _ _ _ h=>(by cases h.1)) (Or.inl ⟨by rfl,?hya8⟩) (by assumption) ?resta8
      case hya8=>(intro w hSw;(try dsimp only at hSw);go_simp <;> with_reducible rfl)
      try simp only[Act.put,List.setIfInBounds_toArray,List.set_cons_zero,List.set_cons_succ]
      refine wpAnyH_done (by kernel_rfl) ?_ _
      refine⟨rfl,?_⟩
      clear hHeld
      obtain⟨w6,hw6,hb6⟩:∃ w6,wC.alloc (.cells #[.int .i64 y0,.int .i64 y1,.int .i64 y2,.int .i64 y3,.bool y4,.int .i64 (yi:Int),.int .i64 (yk:Int),.bool yl,.int .i64 yn,.int .i64 yj] 130)=w6∧But No W w6:=⟨_,rfl,HBC.out.alloc _⟩
      try rw[hw6]
      clear hw6
      have HYN:=hid (HI.out.no hb6)
      have HBN:=hid hb6
      obtain⟨⟨f0,f1,f2,f3,f4,f5,f6,f7,f8,f9,f10⟩,g0,g1,g2,g3,g4,g5,g6,g7,g8,g9,g10⟩:=zero_cells HYN.out.x1
      have k0:=HYN.out.x2.cell (o:=0) rfl
      have k1:=HYN.out.x2.frozen 0
      clear hb6
      gi_wp2
      refine⟨trivial,?_⟩
      gi_wp2
      obtain⟨hz,hzb⟩:=blk_set11 HYN.out.x1 (.int .i64 0) (.int .i64 0) (.int .i64 0) (.int .i64 0) (.int .i64 0) (.int .i64 0) (.int .i64 0) (.int .i64 0) (.slice none 0 0) (.map none) (.slice none 0 0)
      generalize (((((((((((w6.setCell ⟨w.heap.size+1,0,none⟩ (.int .i64 0)).setCell ⟨w.heap.size+1,1,none⟩ (.int .i64 0)).setCell ⟨w.heap.size+1,2,none⟩ (.int .i64 0)).setCell ⟨w.heap.size+1,3,none⟩ (.int .i64 0)).setCell ⟨w.heap.size+1,4,none⟩ (.int .i64 0)).setCell ⟨w.heap.size+1,5,none⟩ (.int .i64 0)).setCell ⟨w.heap.size+1,6,none⟩ (.int .i64 0)).setCell ⟨w.heap.size+1,7,none⟩ (.int .i64 0)).setCell ⟨w.heap.size+1,8,none⟩ (.slice none 0 0)).setCell ⟨w.heap.size+1,9,none⟩ (.map none)).setCell ⟨w.heap.size+1,10,none⟩ (.slice none 0 0))=W2 at hz hzb ⊢
      have hxy:=(HYN.out.x2.but hzb (fun e=>by have e':w.heap.size+1+1=w.heap.size+1:=e;omega)).set 0 (.bool false)
      have hxz:=hz.other (a:=⟨w.heap.size+1+1,0,none⟩) (by show w.heap.size+1≠w.heap.size+1+1;omega) (.bool false)
      have hxb:But (fun k=>k=w.heap.size+1∨k=w.heap.size+1+1) W (W2.setCell ⟨w.heap.size+1+1,0,none⟩ (.bool false)):=(HBN.out.no.trans (hzb.mono (S':=fun k=>k=w.heap.size+1∨k=w.heap.size+1+1) (fun k _ e=>.inl e))).setCell (p:=⟨w.heap.size+1+1,0,none⟩) (.inr rfl) (.bool false)
      exact⟨kf_of hxb (fun k e=>by rcases e with e | e <;> omega),rfl,HI.out.ly.but.andThen' hxb (fun k _ e=>by rcases e with e | e <;> omega),hxz,hxy,HBAD.out (by rw[HOKB.out];rfl)⟩
     ·skip
      refine AllReadyH.cons rfl (fun K hK=>?_) AllReadyH.nil
      go_simp
      refine hK.out _ _ (KEEP.out _ (by repeat (first | (with_reducible exact But.refl _ _) | (with_reducible refine undrew ?_) | (with_reducible refine But.drew ?_) | (with_reducible refine But.alloc ?_ _)))) (fun hHeld=>?_)
      clear hK K
      try simp only[Act.put,List.setIfInBounds_toArray,List.set_cons_zero,List.set_cons_succ]
      refine wpAnyH_ready (rs:=[3]) (by kernel_rfl) (by simp) ?_
      refine AllReadyH.cons rfl (fun K hK=>?_) AllReadyH.nil
      (go_simp;go_at_call 64;(with_reducible refine(CSX.out _).mono ?_);rintro e wC ⟨rfl,hbC⟩;have HBC:Hid (But No W wC):=hid (by refine But.trans ?_ hbC;repeat (first | (with_reducible exact But.refl _ _) | (with_reducible refine But.drew ?_) | (with_reducible refine But.alloc ?_ _)));have hbz:Blk wC W.heap.size #[.int .i64 0,.int .i64 0,.int .i64 0,.int .i64 0,.bool false,.int .i64 0,.int .i64 0,.bool false,.int .i64 0,.int .i64 0] 130:=Blk.but (w:=(W.alloc (.cells #[.int .i64 0,.int .i64 0,.int .i64 0,.int .i64 0,.bool false,.int .i64 0,.int .i64 0,.bool false,.int .i64 0,.int .i64 0] 130)).drew) (Blk.new W _ _) hbC (fun f=>f);have e0:=hbz.cell (o:=0) rfl;have r0:=hbz.frozen 0;have e1:=hbz.cell (o:=1) rfl;have r1:=hbz.frozen 1;have e2:=hbz.cell (o:=2) rfl;have r2:=hbz.frozen 2;have e3:=hbz.cell (o:=3) rfl;have r3:=hbz.frozen 3;have e4:=hbz.cell (o:=4) rfl;have r4:=hbz.frozen 4;have e5:=hbz.cell (o:=5) rfl;have r5:=hbz.frozen 5;have e6:=hbz.cell (o:=6) rfl;have r6:=hbz.frozen 6;have e7:=hbz.cell (o:=7) rfl;have r7:=hbz.frozen 7;have e8:=hbz.cell (o:=8) rfl;have r8:=hbz.frozen 8;have e9:=hbz.cell (o:=9) rfl;have r9:=hbz.frozen 9;have HCH:Hid (But No W ((((((((((wC.setCell ⟨W.heap.size,0,none⟩ (.int .i64 y0)).setCell ⟨W.heap.size,1,none⟩ (.int .i64 y1)).setCell ⟨W.heap.size,2,none⟩ (.int .i64 y2)).setCell ⟨W.heap.size,3,none⟩ (.int .i64 y3)).setCell ⟨W.heap.size,4,none⟩ (.bool y4)).setCell ⟨W.heap.size,5,none⟩ (.int .i64 (yi:Int))).setCell ⟨W.heap.size,6,none⟩ (.int .i64 (yk:Int))).setCell ⟨W.heap.size,7,none⟩ (.bool yl)).setCell ⟨W.heap.size,8,none⟩ (.int .i64 yn)).setCell ⟨W.heap.size,9,none⟩ (.int .i64 yj))):=hid (set10_no HBC.out (Nat.le_refl _) _ _ _ _ _ _ _ _ _ _);clear hbz;clear hbC)
      refine hK.out _ _ (KEEP.out _ HBC.out) (fun hHeld=>?_)
      clear hK K
      try simp only[Act.put,List.setIfInBounds_toArray,List.set_cons_zero,List.set_cons_succ]
      refine wpAnyH_take (i:=4) (v:=?va9) rfl (by kernel_rfl) (by kernel_rfl) (by kernel_rfl) (fun _ _ _ h=>(by cases h.1)) (Or.inl ⟨by rfl,?hya9⟩) (by assumption) ?resta9
      case hya9=>(intro w hSw;(try dsimp only at hSw);go_simp <;> with_reducible rfl)
      try simp only[Act.put,List.setIfInBounds_toArray,List.set_cons_zero,List.set_cons_succ]
      refine wpAnyH_take (i:=5) (v:=?va10) rfl (by kernel_rfl) (by kernel_rfl) (by kernel_rfl) (fun _ _ _ h=>(by cases h.1)) (Or.inl ⟨by rfl,?hya10⟩) (by assumption) ?resta10
      case hya10=>(intro w hSw;(try dsimp only at hSw);go_simp <;> with_reducible rfl)
      try simp only[Act.put,List.setIfInBounds_toArray,List.set_cons_zero,List.set_cons_succ]
      refine wpAnyH_take (i:=6) (v:=?va11) rfl (by kernel_rfl) (by kernel_rfl) (by kernel_rfl) (fun _ _ _ h=>(by cases h.1)) (Or.inl ⟨by rfl,?hya11⟩) (by assumption) ?resta11
      case hya11=>(intro w hSw;(try dsimp only at hSw);go_simp <;> with_reducible rfl)
      try simp only[Act.put,List.setIfInBounds_toArray,List.set_cons_zero,List.set_cons_succ]
      refine wpAnyH_take (i:=7) (v:=?va12) rfl (by kernel_rfl) (by kernel_rfl) (by kernel_rfl) (fun _ _ _ h=>(by cases h.1)) (Or.inl ⟨by rfl,?hya12⟩) (by assumption) ?resta12
      case hya12=>(intro w hSw;(try dsimp only at hSw);go_simp <;> with_reducible rfl)
      try simp only[Act.put,List.setIfInBounds_toArray,List.set_cons_zero,List.set_cons_succ]
      refine wpAnyH_ready (rs:=[9]) (by kernel_rfl) (by simp) ?_
      refine AllReadyH.cons rfl (fun K hK=>?_) AllReadyH.nil
      go_simp
      refine hK.out _ _ (KEEP.out _ HCH.out) (fun hHeld=>?_)
      clear hK K
      try simp only[Act.put,List.setIfInBounds_toArray,List.set_cons_zero,List.set_cons_succ]
      refine wpAnyH_take (i:=10) (v:=?va13) rfl (by kernel_rfl) (by kernel_rfl) (by kernel_rfl) (fun _ _ _ h=>(by cases h.1)) (Or.inl ⟨by rfl,?hya13⟩) (by assumption) ?resta13
      case hya13=>(intro w hSw;(try dsimp only at hSw);go_simp <;> with_reducible rfl)
      try simp only[Act.put,List.setIfInBounds_toArray,List.set_cons_zero,List.set_cons_succ]
      clear e0 r0 e1 r1 e2 r2 e3 r3 e4 r4 e5 r5 e6 r6 e7 r7 e8 r8 e9 r9
      refine wpAnyH_done (by kernel_rfl) ?_ _
      refine⟨rfl,?_⟩
      clear hHeld
      obtain⟨w6,hw6,hb6⟩:∃ w6,((((((((((wC.setCell ⟨W.heap.size,0,none⟩ (.int .i64 y0)).setCell ⟨W.heap.size,1,none⟩ (.int .i64 y1)).setCell ⟨W.heap.size,2,none⟩ (.int .i64 y2)).setCell ⟨W.heap.size,3,none⟩ (.int .i64 y3)).setCell ⟨W.heap.size,4,none⟩ (.bool y4)).setCell ⟨W.heap.size,5,none⟩ (.int .i64 (yi:Int))).setCell ⟨W.heap.size,6,none⟩ (.int .i64 (yk:Int))).setCell ⟨W.heap.size,7,none⟩ (.bool yl)).setCell ⟨W.heap.size,8,none⟩ (.int .i64 yn)).setCell ⟨W.heap.size,9,none⟩ (.int .i64 yj))=w6∧But No W w6:=⟨_,rfl,HCH.out⟩
      try rw[hw6]
      clear hw6
      have HYN:=hid (HI.out.no hb6)
      have HBN:=hid hb6
      obtain⟨⟨f0,f1,f2,f3,f4,f5,f6,f7,f8,f9,f10⟩,g0,g1,g2,g3,g4,g5,g6,g7,g8,g9,g10⟩:=zero_cells HYN.out.x1
      have k0:=HYN.out.x2.cell (o:=0) rfl
      have k1:=HYN.out.x2.frozen 0
      clear hb6
      gi_wp2
      refine⟨trivial,?_⟩
      gi_wp2
      obtain⟨hz,hzb⟩:=blk_set11 HYN.out.x1 (.int .i64 0) (.int .i64 0) (.int .i64 0) (.int .i64 0) (.int .i64 0) (.int .i64 0) (.int .i64 0) (.int .i64 0) (.slice none 0 0) (.map none) (.slice none 0 0)
      generalize (((((((((((w6.setCell ⟨w.heap.size+1,0,none⟩ (.int .i64 0)).setCell ⟨w.heap.size+1,1,none⟩ (.int .i64 0)).setCell ⟨w.heap.size+1,2,none⟩ (.int .i64 0)).setCell ⟨w.heap.size+1,3,none⟩ (.int .i64 0)).setCell ⟨w.heap.size+1,4,none⟩ (.int .i64 0)).setCell ⟨w.heap.size+1,5,none⟩ (.int .i64 0)).setCell ⟨w.heap.size+1,6,none⟩ (.int .i64 0)).setCell ⟨w.heap.size+1,7,none⟩ (.int .i64 0)).setCell ⟨w.heap.size+1,8,none⟩ (.slice none 0 0)).setCell ⟨w.heap.size+1,9,none⟩ (.map none)).setCell ⟨w.heap.size+1,10,none⟩ (.slice none 0 0))=W2 at hz hzb ⊢
      have hxy:=(HYN.out.x2.but hzb (fun e=>by have e':w.heap.size+1+1=w.heap.size+1:=e;omega)).set 0 (.bool false)
      have hxz:=hz.other (a:=⟨w.heap.size+1+1,0,none⟩) (by show w.heap.size+1≠w.heap.size+1+1;omega) (.bool false)
      have hxb:But (fun k=>k=w.heap.size+1∨k=w.heap.size+1+1) W (W2.setCell ⟨w.heap.size+1+1,0,none⟩ (.bool false)):=(HBN.out.no.trans (hzb.mono (S':=fun k=>k=w.heap.size+1∨k=w.heap.size+1+1) (fun k _ e=>.inl e))).setCell (p:=⟨w.heap.size+1+1,0,none⟩) (.inr rfl) (.bool false)
      exact⟨kf_of hxb (fun k e=>by rcases e with e | e <;> omega),rfl,HI.out.ly.but.andThen' hxb (fun k _ e=>by rcases e with e | e <;> omega),hxz,hxy,HBAD.out (by rw[HOKB.out];rfl)⟩
    | false =>
     cases RG with
     | false =>
      gi_upto_region 6 with fail
      refine region_round_held (S:=(fun w'=>w'.cell? ⟨q,9,none⟩=some (.map (some m))∧(w'.cell? ⟨Bx,0,none⟩=some (.int .i64 x0)∧w'.cell? ⟨Bx,1,none⟩=some (.int .i64 x1)∧w'.cell? ⟨Bx,2,none⟩=some (.int .i64 x2)∧w'.cell? ⟨Bx,3,none⟩=some (.int .i64 x3)∧w'.cell? ⟨Bx,4,none⟩=some (.bool x4)∧w'.cell? ⟨Bx,5,none⟩=some (.int .i64 (xi:Int))∧w'.cell? ⟨Bx,6,none⟩=some (.int .i64 (xk:Int))∧w'.cell? ⟨Bx,7,none⟩=some (.bool xl)∧w'.cell? ⟨Bx,8,none⟩=some (.int .i64 xd)∧w'.cell? ⟨Bx,9,none⟩=some (.int .i64 xj))∧(Instr.lookup 121 (.map (some m)) (.agg #[.int .i64 x0,.int .i64 (xi:Int)]) true).run Tryz.prog w'=.ok (.tuple #[.agg #[.int .i64 y0,.int .i64 y1,.int .i64 y2,.int .i64 y3,.bool y4,.int .i64 (yi:Int),.int .i64 (yk:Int),.bool yl,.int .i64 yn,.int .i64 yj],.bool false]) w')) (by kernel_rfl) (by kernel_rfl) (KEEP.out _ (But.refl _ W).drew) (fun hHeld=>?_)
      refine wpAnyH_take (i:=0) (v:=?vb1) rfl (by kernel_rfl) (by kernel_rfl) (by kernel_rfl) (fun _ _ _ h=>(by cases h.1)) (Or.inl ⟨by rfl,?hyb1⟩) (by assumption) ?restb1
      case hyb1=>(intro w hSw;(try dsimp only at hSw);go_simp <;> with_reducible rfl)
      try simp only[Act.put,List.setIfInBounds_toArray,List.set_cons_zero,List.set_cons_succ]
      refine wpAnyH_take (i:=1) (v:=?vb2) rfl (by kernel_rfl) (by kernel_rfl) (by kernel_rfl) (fun _ _ _ h=>(by cases h.1)) (Or.inl ⟨by rfl,?hyb2⟩) (by assumption) ?restb2
      case hyb2=>(intro w hSw;(try dsimp only at hSw);go_simp <;> with_reducible rfl)
      try simp only[Act.put,List.setIfInBounds_toArray,List.set_cons_zero,List.set_cons_succ]
      refine wpAnyH_take (i:=2) (v:=?vb3) rfl (by kernel_rfl) (by kernel_rfl) (by kernel_rfl) (fun _ _ _ h=>(by cases h.1)) (Or.inl ⟨by rfl,?hyb3⟩) (by assumption) ?restb3
      case hyb3=>(intro w hSw;(try dsimp only at hSw);go_simp <;> with_reducible rfl)
      try simp only[Act.put,List.setIfInBounds_toArray,List.set_cons_zero,List.set_cons_succ]
      refine wpAnyH_ready (rs:=[3,8]) (by kernel_rfl) (by simp) ?_
      refine AllReadyH.cons rfl (fun K hK=>?_) ?_
      ·skip
       (go_simp;go_at_call 64;(with_reducible refine(CSX.out _).mono ?_);rintro e wC ⟨rfl,hbC⟩;have HBC:Hid (But No W wC):=hid (by refine But.trans ?_ hbC;repeat (first | (with_reducible exact But.refl _ _) | (with_reducible refine But.drew ?_) | (with_reducible refine But.alloc ?_ _)));clear hbC)
       refine hK.out _ _ (KEEP.out _ HBC.out) (fun hHeld=>?_)
       clear hK K
       try simp only[Act.put,List.setIfInBounds_toArray,List.set_cons_zero,List.set_cons_succ]
       refine wpAnyH_take (i:=4) (v:=?vb4) rfl (by kernel_rfl) (by kernel_rfl) (by kernel_rfl) (fun _ _ _ h=>(by cases h.1)) (Or.inl ⟨by rfl,?hyb4⟩) (by assumption) ?restb4
       case hyb4=>(intro w hSw;(try dsimp only at hSw);go_simp <;> with_reducible rfl)
       try simp only[Act.put,List.setIfInBounds_toArray,List.set_cons_zero,List.set_cons_succ]
       refine wpAnyH_take (i:=5) (v:=?vb5) rfl (by kernel_rfl) (by kernel_rfl) (by kernel_rfl) (fun _ _ _ h=>(by cases h.1)) (Or.inl ⟨by rfl,?hyb5⟩) (by assumption) ?restb5
       case hyb5=>(intro w hSw;(try dsimp only at hSw);go_simp <;> with_reducible rfl)
       try simp only[Act.put,List.setIfInBounds_toArray,List.set_cons_zero,List.set_cons_succ]
       refine wpAnyH_take (i:=6) (v:=?vb6) rfl (by kernel_rfl) (by kernel_rfl) (by kernel_rfl) (fun _ _ _ h=>(by cases h.1)) (Or.inl ⟨by rfl,?hyb6⟩) (by assumption) ?restb6
       case hyb6=>(intro w hSw;(try dsimp only at hSw);go_simp <;> with_reducible rfl)
       try simp only[Act.put,List.setIfInBounds_toArray,List.set_cons_zero,List.set_cons_succ]
       refine wpAnyH_take (i:=7) (v:=?vb7) rfl (by kernel_rfl) (by kernel_rfl) (by kernel_rfl) (fun _ _ _ h=>(by cases h.1)) (Or.inl ⟨by rfl,?hyb7⟩) (by assumption) ?restb7
       case hyb7=>(intro w hSw;(try dsimp only at hSw);go_simp <;> with_reducible rfl)
       try simp only[Act.put,List.setIfInBounds_toArray,List.set_cons_zero,List.set_cons_succ]
       refine wpAnyH_ready (rs:=[8]) (by kernel_rfl) (by simp) ?_
       refine AllReadyH.cons rfl (fun K hK=>?_) AllReadyH.nil
       go_simp
       refine hK.out _ _ (KEEP.out _ (HBC.out.alloc _)) (fun hHeld=>?_)
       clear hK K
       try simp only[Act.put,List.setIfInBounds_toArray,List.set_cons_zero,List.set_cons_succ]
       refine wpAnyH_ready (rs:=[9]) (by kernel_rfl) (by simp) ?_
       refine AllReadyH.cons rfl (fun K hK=>?_) AllReadyH.nil
       go_simp
       refine hK.out _ _ (KEEP.out _ (HBC.out.alloc _)) (fun hHeld=>?_)
       clear hK K
       try simp only[Act.put,List.setIfInBounds_toArray,List.set_cons_zero,List.set_cons_succ]
       refine wpAnyH_take (i:=10) (v:=?vb8) rfl (by kernel_rfl) (by kernel_rfl) (by kernel_rfl) (fun _ _ _ h=>(by cases h.1)) (Or.inl ⟨by rfl,?hyb8⟩) (by assumption) ?restb8
       case hyb8=>(intro w hSw;(try dsimp only at hSw);go_simp <;> with_reducible rfl)
       try simp only[Act.put,List.setIfInBounds_toArray,List.set_cons_zero,List.set_cons_succ]
       refine wpAnyH_done (by kernel_rfl) ?_ _
       refine⟨rfl,?_⟩
       clear hHeld
       obtain⟨w6,hw6,hb6⟩:∃ w6,wC.alloc (.cells #[.int .i64 y0,.int .i64 y1,.int .i64 y2,.int .i64 y3,.bool y4,.int .i64 (yi:Int),.int .i64 (yk:Int),.bool yl,.int .i64 yn,.int .i64 yj] 130)=w6∧But No W w6:=⟨_,rfl,HBC.out.alloc _⟩
       try rw[hw6]
       clear hw6
       have HY6:=hid (HI.out.no hb6)
       have HB6:=hid hb6
       obtain⟨b0,b1,b2,b3,b4,b5,b6,b7,b8⟩:=sys_cells HY6.out.x0
       obtain⟨d0,d1,d2,d3,d4,d5,d6,d7,d8,d9⟩:=Blk.cl (x:=⟨⟨x0,x1,x2,x3,x4⟩,xi,xk,xl,xd,xj⟩) (HBX.out.but hb6 (fun f=>f))
       clear hb6
       gi_wp2_with (refine⟨trivial,?_⟩;gi_at_call 94;refine(CallsIn.inRound lp (callsIn_wide.2 (CRX.out _ (HI.out.ly.but.trans HB6.out)))).mono ?_;rintro e w7 ⟨rfl,h7⟩;have HYN:=hid (HY6.out.no h7);have HBN:=hid (HB6.out.trans h7);obtain⟨⟨f0,f1,f2,f3,f4,f5,f6,f7,f8,f9,f10⟩,g0,g1,g2,g3,g4,g5,g6,g7,g8,g9,g10⟩:=zero_cells HYN.out.x1;have k0:=HYN.out.x2.cell (o:=0) rfl;have k1:=HYN.out.x2.frozen 0;clear h7 b0 b1 b2 b3 b4 b5 b6 b7 b8 d0 d1 d2 d3 d4 d5 d6 d7 d8 d9)
       obtain⟨hz,hzb⟩:=blk_set11 HYN.out.x1 (.int .i64 0) (.int .i64 0) (.int .i64 0) (.int .i64 0) (.int .i64 0) (.int .i64 0) (.int .i64 0) (.int .i64 0) (.slice none 0 0) (.map none) (.slice none 0 0)
       generalize (((((((((((w7.setCell ⟨w.heap.size+1,0,none⟩ (.int .i64 0)).setCell ⟨w.heap.size+1,1,none⟩ (.int .i64 0)).setCell ⟨w.heap.size+1,2,none⟩ (.int .i64 0)).setCell ⟨w.heap.size+1,3,none⟩ (.int .i64 0)).setCell ⟨w.heap.size+1,4,none⟩ (.int .i64 0)).setCell ⟨w.heap.size+1,5,none⟩ (.int .i64 0)).setCell ⟨w.heap.size+1,6,none⟩ (.int .i64 0)).setCell ⟨w.heap.size+1,7,none⟩ (.int .i64 0)).setCell ⟨w.heap.size+1,8,none⟩ (.slice none 0 0)).setCell ⟨w.heap.size+1,9,none⟩ (.map none)).setCell ⟨w.heap.size+1,10,none⟩ (.slice none 0 0))=W2 at hz hzb ⊢
       have hxy:=(HYN.out.x2.but hzb (fun e=>by have e':w.heap.size+1+1=w.heap.size+1:=e;omega)).set 0 (.bool false)
       have hxz:=hz.other (a:=⟨w.heap.size+1+1,0,none⟩) (by show w.heap.size+1≠w.heap.size+1+1;omega) (.bool false)
       have hxb:But (fun k=>k=w.heap.size+1∨k=w.heap.size+1+1) W (W2.setCell ⟨w.heap.size+1+1,0,none⟩ (.bool false)):=(HBN.out.no.trans (hzb.mono (S':=fun k=>k=w.heap.size+1∨k=w.heap.size+1+1) (fun k _ e=>.inl e))).setCell (p:=⟨w.heap.size+1+1,0,none⟩) (.inr rfl) (.bool false)
       exact⟨kf_of hxb (fun k e=>by rcases e with e | e <;> omega),rfl,HI.out.ly.but.andThen' hxb (fun k _ e=>by rcases e with e | e <;> omega),hxz,hxy,HBAD.out (by rw[HOKB.out];rfl)⟩
      ·skip
       refine AllReadyH.cons rfl (fun K hK=>?_) AllReadyH.nil
       go_simp
       refine hK.out _ _ (KEEP.out _ (by repeat (first | (with_reducible exact But.refl _ _) | (with_reducible refine undrew ?_) | (with_reducible refine But.drew ?_) | (with_reducible refine But.alloc ?_ _)))) (fun hHeld=>?_)
       clear hK K
       try simp only[Act.put,List.setIfInBounds_toArray,List.set_cons_zero,List.set_cons_succ]
       refine wpAnyH_ready (rs:=[3]) (by kernel_rfl) (by simp) ?_
       refine AllReadyH.cons rfl (fun K hK=>?_) AllReadyH.nil
       (go_simp;go_at_call 64;(with_reducible refine(CSX.out _).mono ?_);rintro e wC ⟨rfl,hbC⟩;have HBC:Hid (But No W wC):=hid (by refine But.trans ?_ hbC;repeat (first | (with_reducible exact But.refl _ _) | (with_reducible refine But.drew ?_) | (with_reducible refine But.alloc ?_ _)));have hbz:Blk wC W.heap.size #[.int .i64 0,.int .i64 0,.int .i64 0,.int .i64 0,.bool false,.int .i64 0,.int .i64 0,.bool false,.int .i64 0,.int .i64 0] 130:=Blk.but (w:=(W.alloc (.cells #[.int .i64 0,.int .i64 0,.int .i64 0,.int .i64 0,.bool false,.int .i64 0,.int .i64 0,.bool false,.int .i64 0,.int .i64 0] 130)).drew) (Blk.new W _ _) hbC (fun f=>f);have e0:=hbz.cell (o:=0) rfl;have r0:=hbz.frozen 0;have e1:=hbz.cell (o:=1) rfl;have r1:=hbz.frozen 1;have e2:=hbz.cell (o:=2) rfl;have r2:=hbz.frozen 2;have e3:=hbz.cell (o:=3) rfl;have r3:=hbz.frozen 3;have e4:=hbz.cell (o:=4) rfl;have r4:=hbz.frozen 4;have e5:=hbz.cell (o:=5) rfl;have r5:=hbz.frozen 5;have e6:=hbz.cell (o:=6) rfl;have r6:=hbz.frozen 6;have e7:=hbz.cell (o:=7) rfl;have r7:=hbz.frozen 7;have e8:=hbz.cell (o:=8) rfl;have r8:=hbz.frozen 8;have e9:=hbz.cell (o:=9) rfl;have r9:=hbz.frozen 9;have HCH:Hid (But No W ((((((((((wC.setCell ⟨W.heap.size,0,none⟩ (.int .i64 y0)).setCell ⟨W.heap.size,1,none⟩ (.int .i64 y1)).setCell ⟨W.heap.size,2,none⟩ (.int .i64 y2)).setCell ⟨W.heap.size,3,none⟩ (.int .i64 y3)).setCell ⟨W.heap.size,4,none⟩ (.bool y4)).setCell ⟨W.heap.size,5,none⟩ (.int .i64 (yi:Int))).setCell ⟨W.heap.size,6,none⟩ (.int .i64 (yk:Int))).setCell ⟨W.heap.size,7,none⟩ (.bool yl)).setCell ⟨W.heap.size,8,none⟩ (.int .i64 yn)).setCell ⟨W.heap.size,9,none⟩ (.int .i64 yj))):=hid (set10_no HBC.out (Nat.le_refl _) _ _ _ _ _ _ _ _ _ _);clear hbz;clear hbC)
       refine hK.out _ _ (KEEP.out _ HBC.out) (fun hHeld=>?_)
       clear hK K
       try simp only[Act.put,List.setIfInBounds_toArray,List.set_cons_zero,List.set_cons_succ]
       refine wpAnyH_take (i:=4) (v:=?vb9) rfl (by kernel_rfl) (by kernel_rfl) (by kernel_rfl) (fun _ _ _ h=>(by cases h.1)) (Or.inl ⟨by rfl,?hyb9⟩) (by assumption) ?restb9
       case hyb9=>(intro w hSw;(try dsimp only at hSw);go_simp <;> with_reducible rfl)
       try simp only[Act.put,List.setIfInBounds_toArray,List.set_cons_zero,List.set_cons_succ]
       refine wpAnyH_take (i:=5) (v:=?vb10) rfl (by kernel_rfl) (by kernel_rfl) (by kernel_rfl) (fun _ _ _ h=>(by cases h.1)) (Or.inl ⟨by rfl,?hyb10⟩) (by assumption) ?restb10
       case hyb10=>(intro w hSw;(try dsimp only at hSw);go_simp <;> with_reducible rfl)
       try simp only[Act.put,List.setIfInBounds_toArray,List.set_cons_zero,List.set_cons_succ]
       refine wpAnyH_take (i:=6) (v:=?vb11) rfl (by kernel_rfl) (by kernel_rfl) (by kernel_rfl) (fun _ _ _ h=>(by cases h.1)) (Or.inl ⟨by rfl,?hyb11⟩) (by assumption) ?restb11
       case hyb11=>(intro w hSw;(try dsimp only at hSw);go_simp <;> with_reducible rfl)
       try simp only[Act.put,List.setIfInBounds_toArray,List.set_cons_zero,List.set_cons_succ]
       refine wpAnyH_take (i:=7) (v:=?vb12) rfl (by kernel_rfl) (by kernel_rfl) (by kernel_rfl) (fun _ _ _ h=>(by cases h.1)) (Or.inl ⟨by rfl,?hyb12⟩) (by assumption) ?restb12
       case hyb12=>(intro w hSw;(try dsimp only at hSw);go_simp <;> with_reducible rfl)
       try simp only[Act.put,List.setIfInBounds_toArray,List.set_cons_zero,List.set_cons_succ]
       refine wpAnyH_ready (rs:=[9]) (by kernel_rfl) (by simp) ?_
       refine AllReadyH.cons rfl (fun K hK=>?_) AllReadyH.nil
       go_simp
       refine hK.out _ _ (KEEP.out _ HCH.out) (fun hHeld=>?_)
       clear hK K
       try simp only[Act.put,List.setIfInBounds_toArray,List.set_cons_zero,List.set_cons_succ]
       refine wpAnyH_take (i:=10) (v:=?vb13) rfl (by kernel_rfl) (by kernel_rfl) (by kernel_rfl) (fun _ _ _ h=>(by cases h.1)) (Or.inl ⟨by rfl,?hyb13⟩) (by assumption) ?restb13
       case hyb13=>(intro w hSw;(try dsimp only at hSw);go_simp <;> with_reducible rfl)
       try simp only[Act.put,List.setIfInBounds_toArray,List.set_cons_zero,List.set_cons_succ]
       clear e0 r0 e1 r1 e2 r2 e3 r3 e4 r4 e5 r5 e6 r6 e7 r7 e8 r8 e9 r9
       refine wpAnyH_done (by kernel_rfl) ?_ _
       refine⟨rfl,?_⟩
       clear hHeld
       obtain⟨w6,hw6,hb6⟩:∃ w6,((((((((((wC.setCell ⟨W.heap.size,0,none⟩ (.int .i64 y0)).setCell ⟨W.heap.size,1,none⟩ (.int .i64 y1)).setCell ⟨W.heap.size,2,none⟩ (.int .i64 y2)).setCell ⟨W.heap.size,3,none⟩ (.int .i64 y3)).setCell ⟨W.heap.size,4,none⟩ (.bool y4)).setCell ⟨W.heap.size,5,none⟩ (.int .i64 (yi:Int))).setCell ⟨W.heap.size,6,none⟩ (.int .i64 (yk:Int))).setCell ⟨W.heap.size,7,none⟩ (.bool yl)).setCell ⟨W.heap.size,8,none⟩ (.int .i64 yn)).setCell ⟨W.heap.size,9,none⟩ (.int .i64 yj))=w6∧But No W w6:=⟨_,rfl,HCH.out⟩
       try rw[hw6]
       clear hw6
       have HY6:=hid (HI.out.no hb6)
       have HB6:=hid hb6
       obtain⟨b0,b1,b2,b3,b4,b5,b6,b7,b8⟩:=sys_cells HY6.out.x0
       obtain⟨d0,d1,d2,d3,d4,d5,d6,d7,d8,d9⟩:=Blk.cl (x:=⟨⟨x0,x1,x2,x3,x4⟩,xi,xk,xl,xd,xj⟩) (HBX.out.but hb6 (fun f=>f))
       clear hb6
       gi_wp2_with (refine⟨trivial,?_⟩;gi_at_call 94;refine(CallsIn.inRound lp (callsIn_wide.2 (CRX.out _ (HI.out.ly.but.trans HB6.out)))).mono ?_;rintro e w7 ⟨rfl,h7⟩;have HYN:=hid (HY6.out.no h7);have HBN:=hid (HB6.out.trans h7);obtain⟨⟨f0,f1,f2,f3,f4,f5,f6,f7,f8,f9,f10⟩,g0,g1,g2,g3,g4,g5,g6,g7,g8,g9,g10⟩:=zero_cells HYN.out.x1;have k0:=HYN.out.x2.cell (o:=0) rfl;have k1:=HYN.out.x2.frozen 0;clear h7 b0 b1 b2 b3 b4 b5 b6 b7 b8 d0 d1 d2 d3 d4 d5 d6 d7 d8 d9)
       obtain⟨hz,hzb⟩:=blk_set11 HYN.out.x1 (.int .i64 0) (.int .i64 0) (.int .i64 0) (.int .i64 0) (.int .i64 0) (.int .i64 0) (.int .i64 0) (.int .i64 0) (.slice none 0 0) (.map none) (.slice none 0 0)
       generalize (((((((((((w7.setCell ⟨w.heap.size+1,0,none⟩ (.int .i64 0)).setCell ⟨w.heap.size+1,1,none⟩ (.int .i64 0)).setCell ⟨w.heap.size+1,2,none⟩ (.int .i64 0)).setCell ⟨w.heap.size+1,3,none⟩ (.int .i64 0)).setCell ⟨w.heap.size+1,4,none⟩ (.int .i64 0)).setCell ⟨w.heap.size+1,5,none⟩ (.int .i64 0)).setCell ⟨w.heap.size+1,6,none⟩ (.int .i64 0)).setCell ⟨w.heap.size+1,7,none⟩ (.int .i64 0)).setCell ⟨w.heap.size+1,8,none⟩ (.slice none 0 0)).setCell ⟨w.heap.size+1,9,none⟩ (.map none)).setCell ⟨w.heap.size+1,10,none⟩ (.slice none 0 0))=W2 at hz hzb ⊢
       have hxy:=(HYN.out.x2.but hzb (fun e=>by have e':w.heap.size+1+1=w.heap.size+1:=e;omega)).set 0 (.bool false)
       have hxz:=hz.other (a:=⟨w.heap.size+1+1,0,none⟩) (by show w.heap.size+1≠w.heap.size+1+1;omega) (.bool false)
       have hxb:But (fun k=>k=w.heap.size+1∨k=w.heap.size+1+1) W (W2.setCell ⟨w.heap.size+1+1,0,none⟩ (.bool false)):=(HBN.out.no.trans (hzb.mono (S':=fun k=>k=w.heap.size+1∨k=w.heap.size+1+1) (fun k _ e=>.inl e))).setCell (p:=⟨w.heap.size+1+1,0,none⟩) (.inr rfl) (.bool false)
       exact⟨kf_of hxb (fun k e=>by rcases e with e | e <;> omega),rfl,HI.out.ly.but.andThen' hxb (fun k _ e=>by rcases e with e | e <;> omega),hxz,hxy,HBAD.out (by rw[HOKB.out];rfl)⟩
     | true =>
      gi_upto_region 6 with fail
      refine region_round_held (S:=(fun w'=>w'.cell? ⟨q,9,none⟩=some (.map (some m))∧(w'.cell? ⟨Bx,0,none⟩=some (.int .i64 x0)∧w'.cell? ⟨Bx,1,none⟩=some (.int .i64 x1)∧w'.cell? ⟨Bx,2,none⟩=some (.int .i64 x2)∧w'.cell? ⟨Bx,3,none⟩=some (.int .i64 x3)∧w'.cell? ⟨Bx,4,none⟩=some (.bool x4)∧w'.cell? ⟨Bx,5,none⟩=some (.int .i64 (xi:Int))∧w'.cell? ⟨Bx,6,none⟩=some (.int .i64 (xk:Int))∧w'.cell? ⟨Bx,7,none⟩=some (.bool xl)∧w'.cell? ⟨Bx,8,none⟩=some (.int .i64 xd)∧w'.cell? ⟨Bx,9,none⟩=some (.int .i64 xj))∧(Instr.lookup 121 (.map (some m)) (.agg #[.int .i64 x0,.int .i64 (xi:Int)]) true).run Tryz.prog w'=.ok (.tuple #[.agg #[.int .i64 y0,.int .i64 y1,.int .i64 y2,.int .i64 y3,.bool y4,.int .i64 (yi:Int),.int .i64 (yk:Int),.bool yl,.int .i64 yn,.int .i64 yj],.bool false]) w')) (by kernel_rfl) (by kernel_rfl) (KEEP.out _ (But.refl _ W).drew) (fun hHeld=>?_)
      refine wpAnyH_take (i:=0) (v:=?vc1) rfl (by kernel_rfl) (by kernel_rfl) (by kernel_rfl) (fun _ _ _ h=>(by cases h.1)) (Or.inl ⟨by rfl,?hyc1⟩) (by assumption) ?restc1
      case hyc1=>(intro w hSw;(try dsimp only at hSw);go_simp <;> with_reducible rfl)
      try simp only[Act.put,List.setIfInBounds_toArray,List.set_cons_zero,List.set_cons_succ]
      refine wpAnyH_take (i:=1) (v:=?vc2) rfl (by kernel_rfl) (by kernel_rfl) (by kernel_rfl) (fun _ _ _ h=>(by cases h.1)) (Or.inl ⟨by rfl,?hyc2⟩) (by assumption) ?restc2
      case hyc2=>(intro w hSw;(try dsimp only at hSw);go_simp <;> with_reducible rfl)
      try simp only[Act.put,List.setIfInBounds_toArray,List.set_cons_zero,List.set_cons_succ]
      refine wpAnyH_take (i:=2) (v:=?vc3) rfl (by kernel_rfl) (by kernel_rfl) (by kernel_rfl) (fun _ _ _ h=>(by cases h.1)) (Or.inl ⟨by rfl,?hyc3⟩) (by assumption) ?restc3
      case hyc3=>(intro w hSw;(try dsimp only at hSw);go_simp <;> with_reducible rfl)
      try simp only[Act.put,List.setIfInBounds_toArray,List.set_cons_zero,List.set_cons_succ]
      refine wpAnyH_ready (rs:=[3,8]) (by kernel_rfl) (by simp) ?_
      refine AllReadyH.cons rfl (fun K hK=>?_) ?_
      ·skip
       (go_simp;go_at_call 64;(with_reducible refine(CSX.out _).mono ?_);rintro e wC ⟨rfl,hbC⟩;have HBC:Hid (But No W wC):=hid (by refine But.trans ?_ hbC;repeat (first | (with_reducible exact But.refl _ _) | (with_reducible refine But.drew ?_) | (with_reducible refine But.alloc ?_ _)));clear hbC)
       refine hK.out _ _ (KEEP.out _ HBC.out) (fun hHeld=>?_)
       clear hK K
       try simp only[Act.put,List.setIfInBounds_toArray,List.set_cons_zero,List.set_cons_succ]
       refine wpAnyH_take (i:=4) (v:=?vc4) rfl (by kernel_rfl) (by kernel_rfl) (by kernel_rfl) (fun _ _ _ h=>(by cases h.1)) (Or.inl ⟨by rfl,?hyc4⟩) (by assumption) ?restc4
       case hyc4=>(intro w hSw;(try dsimp only at hSw);go_simp <;> with_reducible rfl)
       try simp only[Act.put,List.setIfInBounds_toArray,List.set_cons_zero,List.set_cons_succ]
       refine wpAnyH_take (i:=5) (v:=?vc5) rfl (by kernel_rfl) (by kernel_rfl) (by kernel_rfl) (fun _ _ _ h=>(by cases h.1)) (Or.inl ⟨by rfl,?hyc5⟩) (by assumption) ?restc5
       case hyc5=>(intro w hSw;(try dsimp only at hSw);go_simp <;> with_reducible rfl)
       try simp only[Act.put,List.setIfInBounds_toArray,List.set_cons_zero,List.set_cons_succ]
       refine wpAnyH_take (i:=6) (v:=?vc6) rfl (by kernel_rfl) (by kernel_rfl) (by kernel_rfl) (fun _ _ _ h=>(by cases h.1)) (Or.inl ⟨by rfl,?hyc6⟩) (by assumption) ?restc6
       case hyc6=>(intro w hSw;(try dsimp only at hSw);go_simp <;> with_reducible rfl)
       try simp only[Act.put,List.setIfInBounds_toArray,List.set_cons_zero,List.set_cons_succ]
       refine wpAnyH_take (i:=7) (v:=?vc7) rfl (by kernel_rfl) (by kernel_rfl) (by kernel_rfl) (fun _ _ _ h=>(by cases h.1)) (Or.inl ⟨by rfl,?hyc7⟩) (by assumption) ?restc7
       case hyc7=>(intro w hSw;(try dsimp only at hSw);go_simp <;> with_reducible rfl)
       try simp only[Act.put,List.setIfInBounds_toArray,List.set_cons_zero,List.set_cons_succ]
       refine wpAnyH_ready (rs:=[8]) (by kernel_rfl) (by simp) ?_
       refine AllReadyH.cons rfl (fun K hK=>?_) AllReadyH.nil
       go_simp
       refine hK.out _ _ (KEEP.out _ (HBC.out.alloc _)) (fun hHeld=>?_)
       clear hK K
       try simp only[Act.put,List.setIfInBounds_toArray,List.set_cons_zero,List.set_cons_succ]
       refine wpAnyH_ready (rs:=[9]) (by kernel_rfl) (by simp) ?_
       refine AllReadyH.cons rfl (fun K hK=>?_) AllReadyH.nil
       go_simp
       refine hK.out _ _ (KEEP.out _ (HBC.out.alloc _)) (fun hHeld=>?_)
       clear hK K
       try simp only[Act.put,List.setIfInBounds_toArray,List.set_cons_zero,List.set_cons_succ]
       refine wpAnyH_take (i:=10) (v:=?vc8) rfl (by kernel_rfl) (by kernel_rfl) (by kernel_rfl) (fun _ _ _ h=>(by cases h.1)) (Or.inl ⟨by rfl,?hyc8⟩) (by assumption) ?restc8
       case hyc8=>(intro w hSw;(try dsimp only at hSw);go_simp <;> with_reducible rfl)
       try simp only[Act.put,List.setIfInBounds_toArray,List.set_cons_zero,List.set_cons_succ]
       refine wpAnyH_done (by kernel_rfl) ?_ _
       refine⟨rfl,?_⟩
       clear hHeld
       obtain⟨w6,hw6,hb6⟩:∃ w6,wC.alloc (.cells #[.int .i64 y0,.int .i64 y1,.int .i64 y2,.int .i64 y3,.bool y4,.int .i64 (yi:Int),.int .i64 (yk:Int),.bool yl,.int .i64 yn,.int .i64 yj] 130)=w6∧But No W w6:=⟨_,rfl,HBC.out.alloc _⟩
       try rw[hw6]
       clear hw6
       have HY6:=hid (HI.out.no hb6)
       have HB6:=hid hb6
       obtain⟨b0,b1,b2,b3,b4,b5,b6,b7,b8⟩:=sys_cells HY6.out.x0
       obtain⟨d0,d1,d2,d3,d4,d5,d6,d7,d8,d9⟩:=Blk.cl (x:=⟨⟨x0,x1,x2,x3,x4⟩,xi,xk,xl,xd,xj⟩) (HBX.out.but hb6 (fun f=>f))
       clear hb6
       gi_wp2_with (first
        | (refine⟨trivial,?_⟩;gi_at_call 94;refine(CallsIn.inRound lp (callsIn_wide.2 (CRX.out _ (HI.out.ly.but.trans HB6.out)))).mono ?_;rintro e w7 ⟨rfl,h7⟩;have HYN:=hid (HY6.out.no h7);have HBN:=hid (HB6.out.trans h7);obtain⟨⟨l0,l1,l2,l3,l4,l5,l6,l7,l8⟩,l9,l10⟩:=ly_cells HYN.out.x3;obtain⟨p0,p1,p2,p3,p4,p5,p6,p7,p8,p9⟩:=Blk.cl (x:=⟨⟨x0,x1,x2,x3,x4⟩,xi,xk,xl,xd,xj⟩) (HBX.out.but HBN.out (fun f=>f));clear h7 b0 b1 b2 b3 b4 b5 b6 b7 b8 d0 d1 d2 d3 d4 d5 d6 d7 d8 d9)
        | (refine⟨trivial,?_⟩;gi_at_call 95;refine(CallsIn.inRound lp (callsIn_wide.2 (HPUT.out _ HBN.out (by rw[HOKB.out];rfl)))).mono ?_;rintro e w8 ⟨⟨v8,rfl⟩,h8,h9,h10⟩;have H8:=hid h8;have H9:=hid (HBN.out.no.trans h9);have H10:=hid h10;clear h8 h9 h10))
       exact⟨kf_of H9.out (fun k e=>by rcases e with e | e <;> omega),kt_of H9.out (by omega) (by omega),H8.out,Nat.le_trans HZ.out H9.out.size,H10.out⟩
      ·skip
       refine AllReadyH.cons rfl (fun K hK=>?_) AllReadyH.nil
       go_simp
       refine hK.out _ _ (KEEP.out _ (by repeat (first | (with_reducible exact But.refl _ _) | (with_reducible refine undrew ?_) | (with_reducible refine But.drew ?_) | (with_reducible refine But.alloc ?_ _)))) (fun hHeld=>?_)
       clear hK K
       try simp only[Act.put,List.setIfInBounds_toArray,List.set_cons_zero,List.set_cons_succ]
       refine wpAnyH_ready (rs:=[3]) (by kernel_rfl) (by simp) ?_
       refine AllReadyH.cons rfl (fun K hK=>?_) AllReadyH.nil
       (go_simp;go_at_call 64;(with_reducible refine(CSX.out _).mono ?_);rintro e wC ⟨rfl,hbC⟩;have HBC:Hid (But No W wC):=hid (by refine But.trans ?_ hbC;repeat (first | (with_reducible exact But.refl _ _) | (with_reducible refine But.drew ?_) | (with_reducible refine But.alloc ?_ _)));have hbz:Blk wC W.heap.size #[.int .i64 0,.int .i64 0,.int .i64 0,.int .i64 0,.bool false,.int .i64 0,.int .i64 0,.bool false,.int .i64 0,.int .i64 0] 130:=Blk.but (w:=(W.alloc (.cells #[.int .i64 0,.int .i64 0,.int .i64 0,.int .i64 0,.bool false,.int .i64 0,.int .i64 0,.bool false,.int .i64 0,.int .i64 0] 130)).drew) (Blk.new W _ _) hbC (fun f=>f);have e0:=hbz.cell (o:=0) rfl;have r0:=hbz.frozen 0;have e1:=hbz.cell (o:=1) rfl;have r1:=hbz.frozen 1;have e2:=hbz.cell (o:=2) rfl;have r2:=hbz.frozen 2;have e3:=hbz.cell (o:=3) rfl;have r3:=hbz.frozen 3;have e4:=hbz.cell (o:=4) rfl;have r4:=hbz.frozen 4;have e5:=hbz.cell (o:=5) rfl;have r5:=hbz.frozen 5;have e6:=hbz.cell (o:=6) rfl;have r6:=hbz.frozen 6;have e7:=hbz.cell (o:=7) rfl;have r7:=hbz.frozen 7;have e8:=hbz.cell (o:=8) rfl;have r8:=hbz.frozen 8;have e9:=hbz.cell (o:=9) rfl;have r9:=hbz.frozen 9;have HCH:Hid (But No W ((((((((((wC.setCell ⟨W.heap.size,0,none⟩ (.int .i64 y0)).setCell ⟨W.heap.size,1,none⟩ (.int .i64 y1)).setCell ⟨W.heap.size,2,none⟩ (.int .i64 y2)).setCell ⟨W.heap.size,3,none⟩ (.int .i64 y3)).setCell ⟨W.heap.size,4,none⟩ (.bool y4)).setCell ⟨W.heap.size,5,none⟩ (.int .i64 (yi:Int))).setCell ⟨W.heap.size,6,none⟩ (.int .i64 (yk:Int))).setCell ⟨W.heap.size,7,none⟩ (.bool yl)).setCell ⟨W.heap.size,8,none⟩ (.int .i64 yn)).setCell ⟨W.heap.size,9,none⟩ (.int .i64 yj))):=hid (set10_no HBC.out (Nat.le_refl _) _ _ _ _ _ _ _ _ _ _);clear hbz;clear hbC)
       refine hK.out _ _ (KEEP.out _ HBC.out) (fun hHeld=>?_)
       clear hK K
       try simp only[Act.put,List.setIfInBounds_toArray,List.set_cons_zero,List.set_cons_succ]
       refine wpAnyH_take (i:=4) (v:=?vc9) rfl (by kernel_rfl) (by kernel_rfl) (by kernel_rfl) (fun _ _ _ h=>(by cases h.1)) (Or.inl ⟨by rfl,?hyc9⟩) (by assumption) ?restc9
       case hyc9=>(intro w hSw;(try dsimp only at hSw);go_simp <;> with_reducible rfl)
       try simp only[Act.put,List.setIfInBounds_toArray,List.set_cons_zero,List.set_cons_succ]
       refine wpAnyH_take (i:=5) (v:=?vc10) rfl (by kernel_rfl) (by kernel_rfl) (by kernel_rfl) (fun _ _ _ h=>(by cases h.1)) (Or.inl ⟨by rfl,?hyc10⟩) (by assumption) ?restc10
       case hyc10=>(intro w hSw;(try dsimp only at hSw);go_simp <;> with_reducible rfl)
       try simp only[Act.put,List.setIfInBounds_toArray,List.set_cons_zero,List.set_cons_succ]
       refine wpAnyH_take (i:=6) (v:=?vc11) rfl (by kernel_rfl) (by kernel_rfl) (by kernel_rfl) (fun _ _ _ h=>(by cases h.1)) (Or.inl ⟨by rfl,?hyc11⟩) (by assumption) ?restc11
       case hyc11=>(intro w hSw;(try dsimp only at hSw);go_simp <;> with_reducible rfl)
       try simp only[Act.put,List.setIfInBounds_toArray,List.set_cons_zero,List.set_cons_succ]
       refine wpAnyH_take (i:=7) (v:=?vc12) rfl (by kernel_rfl) (by kernel_rfl) (by kernel_rfl) (fun _ _ _ h=>(by cases h.1)) (Or.inl ⟨by rfl,?hyc12⟩) (by assumption) ?restc12
       case hyc12=>(intro w hSw;(try dsimp only at hSw);go_simp <;> with_reducible rfl)
       try simp only[Act.put,List.setIfInBounds_toArray,List.set_cons_zero,List.set_cons_succ]
       refine wpAnyH_ready (rs:=[9]) (by kernel_rfl) (by simp) ?_
       refine AllReadyH.cons rfl (fun K hK=>?_) AllReadyH.nil
       go_simp
       refine hK.out _ _ (KEEP.out _ HCH.out) (fun hHeld=>?_)
       clear hK K
       try simp only[Act.put,List.setIfInBounds_toArray,List.set_cons_zero,List.set_cons_succ]
       refine wpAnyH_take (i:=10) (v:=?vc13) rfl (by kernel_rfl) (by kernel_rfl) (by kernel_rfl) (fun _ _ _ h=>(by cases h.1)) (Or.inl ⟨by rfl,?hyc13⟩) (by assumption) ?restc13
       case hyc13=>(intro w hSw;(try dsimp only at hSw);go_simp <;> with_reducible rfl)
       try simp only[Act.put,List.setIfInBounds_toArray,List.set_cons_zero,List.set_cons_succ]
       clear e0 r0 e1 r1 e2 r2 e3 r3 e4 r4 e5 r5 e6 r6 e7 r7 e8 r8 e9 r9
       refine wpAnyH_done (by kernel_rfl) ?_ _
       refine⟨rfl,?_⟩
       clear hHeld
       obtain⟨w6,hw6,hb6⟩:∃ w6,((((((((((wC.setCell ⟨W.heap.size,0,none⟩ (.int .i64 y0)).setCell ⟨W.heap.size,1,none⟩ (.int .i64 y1)).setCell ⟨W.heap.size,2,none⟩ (.int .i64 y2)).setCell ⟨W.heap.size,3,none⟩ (.int .i64 y3)).setCell ⟨W.heap.size,4,none⟩ (.bool y4)).setCell ⟨W.heap.size,5,none⟩ (.int .i64 (yi:Int))).setCell ⟨W.heap.size,6,none⟩ (.int .i64 (yk:Int))).setCell ⟨W.heap.size,7,none⟩ (.bool yl)).setCell ⟨W.heap.size,8,none⟩ (.int .i64 yn)).setCell ⟨W.heap.size,9,none⟩ (.int .i64 yj))=w6∧But No W w6:=⟨_,rfl,HCH.out⟩
       try rw[hw6]
       clear hw6
       have HY6:=hid (HI.out.no hb6)
       have HB6:=hid hb6
       obtain⟨b0,b1,b2,b3,b4,b5,b6,b7,b8⟩:=sys_cells HY6.out.x0
       obtain⟨d0,d1,d2,d3,d4,d5,d6,d7,d8,d9⟩:=Blk.cl (x:=⟨⟨x0,x1,x2,x3,x4⟩,xi,xk,xl,xd,xj⟩) (HBX.out.but hb6 (fun f=>f))
       clear hb6
       gi_wp2_with (first
        | (refine⟨trivial,?_⟩;gi_at_call 94;refine(CallsIn.inRound lp (callsIn_wide.2 (CRX.out _ (HI.out.ly.but.trans HB6.out)))).mono ?_;rintro e w7 ⟨rfl,h7⟩;have HYN:=hid (HY6.out.no h7);have HBN:=hid (HB6.out.trans h7);obtain⟨⟨l0,l1,l2,l3,l4,l5,l6,l7,l8⟩,l9,l10⟩:=ly_cells HYN.out.x3;obtain⟨p0,p1,p2,p3,p4,p5,p6,p7,p8,p9⟩:=Blk.cl (x:=⟨⟨x0,x1,x2,x3,x4⟩,xi,xk,xl,xd,xj⟩) (HBX.out.but HBN.out (fun f=>f));clear h7 b0 b1 b2 b3 b4 b5 b6 b7 b8 d0 d1 d2 d3 d4 d5 d6 d7 d8 d9)
        | (refine⟨trivial,?_⟩;gi_at_call 95;refine(CallsIn.inRound lp (callsIn_wide.2 (HPUT.out _ HBN.out (by rw[HOKB.out];rfl)))).mono ?_;rintro e w8 ⟨⟨v8,rfl⟩,h8,h9,h10⟩;have H8:=hid h8;have H9:=hid (HBN.out.no.trans h9);have H10:=hid h10;clear h8 h9 h10))
       exact⟨kf_of H9.out (fun k e=>by rcases e with e | e <;> omega),kt_of H9.out (by omega) (by omega),H8.out,Nat.le_trans HZ.out H9.out.size,H10.out⟩
   case done =>
    rintro D ys W hD rfl ⟨hi,hz,hv⟩ hK
    have hK0:=HPL.out _ hv
    rw[vl_all] at hK0
    rw[List.length_attach,vl_all] at hi
    rw[vl_all] at hv
    have HFK:Hid (Fok N (mpF (vis lt L))):=hid (mpF_fok HVI.out)
    obtain⟨co,hco⟩:∃ co:Nat,s.co=(co:Int):=⟨s.co.toNat,by have:=(right_nums HR.out).1;omega⟩
    have hco8:co≤8:=by have:=(right_nums HR.out).1;omega
    have HLYB:Hid (lyB s L=ftN s (mpF (vis lt L)) N co):=hid (by unfold lyB;rw[HLT.out,HR.out,hv,HTS.out,hco];have:L.length=N:=HL.out.len;simp[this])
    have HLYF:Hid (lyF s L=if s.po=1 then rkM (mpF (vis lt L)) N co else mpF (vis lt L)):=hid (by unfold lyF;rw[HLT.out,HTS.out,hco];rfl)
    have HLYW:Hid (lyW s L=mpW (vis lt L)):=hid (by unfold lyW;rw[HLT.out])
    generalize mpF (vis lt L)=F0 at hi HFK HLYB HLYF
    generalize mpW (vis lt L)=f0 at hi HLYW
    generalize (vis lt L).length=K0 at hi hK0
    have HREL:Hid ((∃ K,K≤192+24*0∧LS w s A N c m b q K (if s.po=1 then rkM F0 N 0 else F0) f0 W)∧ftN s F0 N 0=true∧W.heap[D]? = some (.deferred (some []))∧w3.heap.size≤W.heap.size):=hid ⟨⟨K0,hK0,by rw[rkM_zero];simpa using hi⟩,rfl,hK,hz⟩
    have HX0:=hid hi.x0
    obtain⟨b0,b1,b2,b3,b4,b5,b6,b7,b8⟩:=sys_cells hi.x0
    rw[hco] at b0
    have HCO:=hid hco
    have HD:=hid hD
    clear hi hv hz hK hK0 hco HVI HPL CSE CRG HLS3
    gi_upto_region 10 with fail
    go_wp2_with fail
    go_loopw [55] (fun i wr=>∃ k:Nat,i=.int .i64 (k:Int)∧k≤co∧Hid ((∃ K,K≤192+24*k∧LS w s A N c m b q K (if s.po=1 then rkM F0 N k else F0) f0 wr)∧ftN s F0 N k=true∧wr.heap[D]? = some (.deferred (some []))∧w3.heap.size≤wr.heap.size)) (fun i _=>co-(intOf i).toNat)
    case atStart=>exact⟨0,rfl,by omega,HREL⟩
    case round =>
     clear b0 b1 b2 b3 b4 b5 b6 b7 b8 HREL HX0
     obtain⟨k,rfl,hk,HS2⟩:=hrel
     obtain⟨⟨K,hKle,hls⟩,hft,hkd,hzr⟩:=HS2.out
     have hk0:(0:Int)≤(k:Int):=Int.natCast_nonneg k
     have hkR:inR (k:Int):=by unfold inR;omega
     have HFK2:Hid (Fok N (if s.po=1 then rkM F0 N k else F0)):=hid (by split;exact rkM_fok HFK.out HN.out.2 k;exact HFK.out)
     have HON:Hid (onN (if s.po=1 then rkM F0 N k else F0) (k:Int) N=onN F0 (k:Int) N):=hid (by split;exact rkM_on (Int.le_refl _);rfl)
     have HLS:=hid hls
     have HFT:=hid hft
     have HKD:=hid hkd
     have HZR:=hid hzr
     by_cases hlt:k<co
     ·have c3:decide ((k:Int)<(co:Int))=true:=by simp;omega
      obtain⟨⟨l0,l1,l2,l3,l4,l5,l6,l7,l8⟩,l9,l10⟩:=ly_cells hls.x3
      have hcf:=fits_any hls.ly (fun a t x e=>(HFK2.out.at_ a t x e).2.2) HN.out.2 (k:Int) hkR
      rw[HON.out] at hcf
      cases hfv:fitsV s (onN F0 (k:Int) N)with
      | false =>
       rw[hfv] at hcf
       have HCF:=hid hcf
       have HV:Hid (lyB s L=false):=hid (by rw[HLYB.out];exact ftN_bad hfv co hlt)
       clear hcf hfv hls hft hkd hzr
       dsimp only[lyV,lyA] at HCF
       go_wp2_with (go_at_call 96;(with_reducible refine HCF.out.mono ?_);rintro e w4 ⟨rfl,h4⟩;have HYN:=hid (HLS.out.no h4);have HBN:=hid h4;obtain⟨⟨f0,f1,f2,f3,f4,f5,f6,f7,f8,f9,f10⟩,g0,g1,g2,g3,g4,g5,g6,g7,g8,g9,g10⟩:=zero_cells HYN.out.x1;have k0:=HYN.out.x2.cell (o:=0) rfl;have k1:=HYN.out.x2.frozen 0;clear h4 l0 l1 l2 l3 l4 l5 l6 l7 l8 l9 l10)
       have HKN:Hid (w4.heap[D]? = some (.deferred (some []))):=hid ((HBN.out.block D (Array.getElem?_eq_some_iff.1 HKD.out).1 (fun f=>f)).trans HKD.out)
       obtain⟨hz9,hzb⟩:=blk_set11 HYN.out.x1 (.int .i64 0) (.int .i64 0) (.int .i64 0) (.int .i64 0) (.int .i64 0) (.int .i64 0) (.int .i64 0) (.int .i64 0) (.slice none 0 0) (.map none) (.slice none 0 0)
       generalize (((((((((((w4.setCell ⟨w.heap.size+1,0,none⟩ (.int .i64 0)).setCell ⟨w.heap.size+1,1,none⟩ (.int .i64 0)).setCell ⟨w.heap.size+1,2,none⟩ (.int .i64 0)).setCell ⟨w.heap.size+1,3,none⟩ (.int .i64 0)).setCell ⟨w.heap.size+1,4,none⟩ (.int .i64 0)).setCell ⟨w.heap.size+1,5,none⟩ (.int .i64 0)).setCell ⟨w.heap.size+1,6,none⟩ (.int .i64 0)).setCell ⟨w.heap.size+1,7,none⟩ (.int .i64 0)).setCell ⟨w.heap.size+1,8,none⟩ (.slice none 0 0)).setCell ⟨w.heap.size+1,9,none⟩ (.map none)).setCell ⟨w.heap.size+1,10,none⟩ (.slice none 0 0))=W2 at hz9 hzb ⊢
       have hxy:=(HYN.out.x2.but hzb (fun e=>by have e':w.heap.size+1+1=w.heap.size+1:=e;omega)).set 0 (.bool false)
       have hxz:=hz9.other (a:=⟨w.heap.size+1+1,0,none⟩) (by show w.heap.size+1≠w.heap.size+1+1;omega) (.bool false)
       have hxc:But (fun k=>k=w.heap.size+1∨k=w.heap.size+1+1) w4 (W2.setCell ⟨w.heap.size+1+1,0,none⟩ (.bool false)):=(hzb.mono (S':=fun k=>k=w.heap.size+1∨k=w.heap.size+1+1) (fun k _ e=>.inl e)).setCell (p:=⟨w.heap.size+1+1,0,none⟩) (.inr rfl) (.bool false)
       generalize W2.setCell ⟨w.heap.size+1+1,0,none⟩ (.bool false)=W5 at hxy hxz hxc ⊢
       have hkd5:W5.heap[D]? = some (.deferred (some [])):=by
        rw[hxc.block D (Array.getElem?_eq_some_iff.1 HKN.out).1 (fun e=>by have:=HD.out;rcases e with e | e <;> omega)];exact HKN.out
       have hxb:But (fun k=>k=w.heap.size+1∨k=w.heap.size+1+1∨k=D) w4 W5:=hxc.mono (fun k _ e=>by rcases e with e | e;exact .inl e;exact .inr (.inl e))
       have hbP:But (fun k=>k=w.heap.size+1∨k=w.heap.size+1+1∨k=D) W5 (W5.putObj D (.deferred none)):=(But.refl _ W5).grown (grownBy_putObj' _ D (.deferred none)) (fun k e=>.inl (.inr (.inr (by cases e;rfl))))
       have hbD:But (fun k=>k=D) W5 (W5.putObj D (.deferred none)):=(But.refl _ W5).grown (grownBy_putObj' _ D (.deferred none)) (fun k e=>.inl (by cases e;rfl))
       obtain⟨⟨e0,e1,e2,e3,e4,e5,e6,e7,e8,e9,e10⟩,_⟩:=zero_cells (hxz.but hbD (fun e=>by have e':w.heap.size+1=D:=e;have:=HD.out;omega))
       have ey:=(hxy.but hbD (fun e=>by have e':w.heap.size+1+1=D:=e;have:=HD.out;omega)).cell (o:=0) rfl
       have hfin:But No w (W5.putObj D (.deferred none)):=HYN.out.ly.but.andThen' (hxb.trans hbP) (fun k _ e=>by have:=HD.out;rcases e with e | e | e <;> omega)
       refine⟨by simp,.inl ⟨_,_,rfl,run_takeDeferred hkd5,?_⟩⟩
       exact⟨.tuple #[zeroLy,.bool false],by simp[results,Tryz.results62,go_sem,e0,e1,e2,e3,e4,e5,e6,e7,e8,e9,e10,ey,zeroLy],hfin,zeroLy,by rw[HV.out],fun h=>(by rw[HV.out] at h;cases h),fun _=>rfl⟩
      | true =>
       rw[hfv] at hcf
       have HCF:=hid hcf
       have HFT2:Hid (ftN s F0 N (k+1)=true):=hid (by rw[ftN,HFT.out,hfv];rfl)
       have HKL:=hid hKle
       clear hcf hfv hls hft hkd hzr hKle
       dsimp only[lyV,lyA] at HCF
       by_cases hpo:s.po=1
       ·have hp1:(s.po == 1)=true:=by simp[hpo]
        have HPO:=hid hpo
        clear hpo
        go_upto_region 16 with(go_at_call 96;(with_reducible refine HCF.out.mono ?_);rintro e w4 ⟨rfl,h4⟩;have HYN:=hid (HLS.out.no h4);have HBN:=hid h4;obtain⟨b0,b1,b2,b3,b4,b5,b6,b7,b8⟩:=sys_cells HYN.out.x0;clear h4 l0 l1 l2 l3 l4 l5 l6 l7 l8 l9 l10)
        clear b0 b1 b2 b3 b4 b5 b6 b7 b8
        obtain⟨⟨l0,l1,l2,l3,l4,l5,l6,l7,l8⟩,l9,l10⟩:=ly_cells HYN.out.x3
        have HCR:Hid (Calls Tryz.prog 97 #[lyV s A N c m b,.int .i64 (k:Int)] w4 fun e w'=>(∃ v,e=.returned v)∧(∃ K',K'≤192+24*(k+1)∧LS w s A N c m b q K' (if s.po=1 then rkM F0 N (k+1) else F0) f0 w')∧But (Just m) w4 w'):=hid (by
         have hyy:=HYN.out.ly
         have hfk:=HFK2.out
         rw[if_pos HPO.out] at hyy hfk
         refine(rank_any hyy hfk HN.out.2 (by have:=HKL.out;omega) (k:Int) hkR).mono ?_
         rintro e w9 ⟨h1,⟨l',h2,h3,h4⟩,h5⟩
         have hl24:l'.length≤24:=by
          rw[h2.length_eq]
          have:=HN.out.2
          exact Nat.le_trans (nt_len _) (Nat.le_trans (onN_len N) this)
         rw[rkT_is hfk h2 h3,rkM_succ] at h4
         refine⟨h1,⟨K+l'.length,by have:=HKL.out;omega,?_⟩,h5⟩
         rw[if_pos HPO.out]
         exact HYN.out.step h4 (h5.mono (fun z _ e=>.inl e)))
        dsimp only[lyV,lyA] at HCR
        go_wp2_with (go_at_call 97;(with_reducible refine HCR.out.mono ?_);rintro e w5 ⟨⟨v5,rfl⟩,h5,h6⟩;have H5:=hid h5;have H6:=hid h6;clear h5 h6 l0 l1 l2 l3 l4 l5 l6 l7 l8 l9 l10)
        have HREL2:Hid ((∃ K,K≤192+24*(k+1)∧LS w s A N c m b q K (if s.po=1 then rkM F0 N (k+1) else F0) f0 w5)∧ftN s F0 N (k+1)=true∧w5.heap[D]? = some (.deferred (some []))∧w3.heap.size≤w5.heap.size):=hid ⟨H5.out,HFT2.out,by
         rw[H6.out.block D (Nat.lt_of_lt_of_le (Array.getElem?_eq_some_iff.1 HKD.out).1 HBN.out.size) (fun e=>by have e':D=m:=e;have:=HD.out;omega),HBN.out.block D (Array.getElem?_eq_some_iff.1 HKD.out).1 (fun f=>f)];exact HKD.out,Nat.le_trans HZR.out (Nat.le_trans HBN.out.size H6.out.size)⟩
        go_roundw
        case rel=>exact⟨k+1,by go_num,by omega,HREL2⟩
        case measure=>simp[intOf];omega
       ·have hp1:(s.po == 1)=false:=by simp[hpo]
        have HPO:=hid hpo
        clear hpo
        go_wp2_with (go_at_call 96;(with_reducible refine HCF.out.mono ?_);rintro e w4 ⟨rfl,h4⟩;have HYN:=hid (HLS.out.no h4);have HBN:=hid h4;obtain⟨b0,b1,b2,b3,b4,b5,b6,b7,b8⟩:=sys_cells HYN.out.x0;clear h4 l0 l1 l2 l3 l4 l5 l6 l7 l8 l9 l10)
        have HREL2:Hid ((∃ K,K≤192+24*(k+1)∧LS w s A N c m b q K (if s.po=1 then rkM F0 N (k+1) else F0) f0 w4)∧ftN s F0 N (k+1)=true∧w4.heap[D]? = some (.deferred (some []))∧w3.heap.size≤w4.heap.size):=hid ⟨⟨K,by have:=HKL.out;omega,by have h9:=HYN.out;rw[if_neg HPO.out] at h9 ⊢;exact h9⟩,HFT2.out,(HBN.out.block D (Array.getElem?_eq_some_iff.1 HKD.out).1 (fun f=>f)).trans HKD.out,Nat.le_trans HZR.out HBN.out.size⟩
        clear b0 b1 b2 b3 b4 b5 b6 b7 b8
        go_roundw
        case rel=>exact⟨k+1,by go_num,by omega,HREL2⟩
        case measure=>simp[intOf];omega
     ·obtain rfl:k=co:=by omega
      have c3:decide ((k:Int)<(k:Int))=false:=by simp
      have HYN:=HLS
      have HKN:=HKD
      have HV:Hid (lyB s L=true):=hid (by rw[HLYB.out];exact HFT.out)
      have hnf:(if s.po=1 then rkM F0 N k else F0)=lyF s L:=HLYF.out.symm
      have HNF:=hid hnf
      clear hnf hls hft hkd hzr
      obtain⟨⟨l0,l1,l2,l3,l4,l5,l6,l7,l8⟩,l9,l10⟩:=ly_cells HLS.out.x3
      obtain⟨⟨f0,f1,f2,f3,f4,f5,f6,f7,f8,f9,f10⟩,g0,g1,g2,g3,g4,g5,g6,g7,g8,g9,g10⟩:=zero_cells HYN.out.x1
      have k0:=HYN.out.x2.cell (o:=0) rfl
      have k1:=HYN.out.x2.frozen 0
      go_wp2_with fail
      clear l0 l1 l2 l3 l4 l5 l6 l7 l8 l9 l10
      obtain⟨hz9,hzb⟩:=blk_set11 HYN.out.x1 (.int .i64 s.co) (.int .i64 s.po) (.int .i64 s.pr) (.int .i64 s.re) (.int .i64 s.sw) (.int .i64 s.fi) (.int .i64 s.la) (.int .i64 s.rs) (.slice A N c) (.map (some m)) (.slice (some ⟨b,0,none⟩) N N)
      generalize (((((((((((wr.setCell ⟨w.heap.size+1,0,none⟩ (.int .i64 s.co)).setCell ⟨w.heap.size+1,1,none⟩ (.int .i64 s.po)).setCell ⟨w.heap.size+1,2,none⟩ (.int .i64 s.pr)).setCell ⟨w.heap.size+1,3,none⟩ (.int .i64 s.re)).setCell ⟨w.heap.size+1,4,none⟩ (.int .i64 s.sw)).setCell ⟨w.heap.size+1,5,none⟩ (.int .i64 s.fi)).setCell ⟨w.heap.size+1,6,none⟩ (.int .i64 s.la)).setCell ⟨w.heap.size+1,7,none⟩ (.int .i64 s.rs)).setCell ⟨w.heap.size+1,8,none⟩ (.slice A N c)).setCell ⟨w.heap.size+1,9,none⟩ (.map (some m))).setCell ⟨w.heap.size+1,10,none⟩ (.slice (some ⟨b,0,none⟩) N N))=W2 at hz9 hzb ⊢
      have hxy:=(HYN.out.x2.but hzb (fun e=>by have e':w.heap.size+1+1=w.heap.size+1:=e;omega)).set 0 (.bool true)
      have hxz:=hz9.other (a:=⟨w.heap.size+1+1,0,none⟩) (by show w.heap.size+1≠w.heap.size+1+1;omega) (.bool true)
      have hxc:But (fun k=>k=w.heap.size+1∨k=w.heap.size+1+1) wr (W2.setCell ⟨w.heap.size+1+1,0,none⟩ (.bool true)):=(hzb.mono (S':=fun k=>k=w.heap.size+1∨k=w.heap.size+1+1) (fun k _ e=>.inl e)).setCell (p:=⟨w.heap.size+1+1,0,none⟩) (.inr rfl) (.bool true)
      generalize W2.setCell ⟨w.heap.size+1+1,0,none⟩ (.bool true)=W5 at hxy hxz hxc ⊢
      have hkd5:W5.heap[D]? = some (.deferred (some [])):=by
       rw[hxc.block D (Array.getElem?_eq_some_iff.1 HKN.out).1 (fun e=>by have:=HD.out;rcases e with e | e <;> omega)];exact HKN.out
      have hxb:But (fun k=>k=w.heap.size+1∨k=w.heap.size+1+1∨k=D) wr W5:=hxc.mono (fun k _ e=>by rcases e with e | e;exact .inl e;exact .inr (.inl e))
      have hbP:But (fun k=>k=w.heap.size+1∨k=w.heap.size+1+1∨k=D) W5 (W5.putObj D (.deferred none)):=(But.refl _ W5).grown (grownBy_putObj' _ D (.deferred none)) (fun k e=>.inl (.inr (.inr (by cases e;rfl))))
      have hbD:But (fun k=>k=D) W5 (W5.putObj D (.deferred none)):=(But.refl _ W5).grown (grownBy_putObj' _ D (.deferred none)) (fun k e=>.inl (by cases e;rfl))
      obtain⟨⟨e0,e1,e2,e3,e4,e5,e6,e7,e8⟩,e9,e10⟩:=ly_cells (hxz.but hbD (fun e=>by have e':w.heap.size+1=D:=e;have:=HD.out;omega))
      have ey:=(hxy.but hbD (fun e=>by have e':w.heap.size+1+1=D:=e;have:=HD.out;omega)).cell (o:=0) rfl
      have hfb:=hxb.trans hbP
      have hfin:But No w (W5.putObj D (.deferred none)):=HYN.out.ly.but.andThen' hfb (fun k _ e=>by have:=HD.out;rcases e with e | e | e <;> omega)
      have hlyf:=HYN.out.ly.turn hfb (fun k _ e=>by have:=HD.out;rcases e with e | e | e <;> omega)
      rw[HNF.out,←HLYW.out] at hlyf
      refine⟨by simp,.inl ⟨_,_,rfl,run_takeDeferred hkd5,?_⟩⟩
      exact⟨.tuple #[lyV s A N c m b,.bool true],by simp[results,Tryz.results62,go_sem,e0,e1,e2,e3,e4,e5,e6,e7,e8,e9,e10,ey,lyV,lyA],hfin,lyV s A N c m b,by rw[HV.out],fun _=>⟨m,b,K,rfl,hlyf⟩,fun h=>by rw[HV.out] at h;cases h⟩
   case stop =>
    rintro D c9 pre W hD hp ⟨rfl,hbW,hx1,hx2,hV⟩ hK
    have hbP:But (fun k=>k=D) W (W.putObj D (.deferred none)):=(But.refl _ W).grown (grownBy_putObj' _ D (.deferred none)) (fun k e=>.inl (by cases e;rfl))
    have hV9:vOk s (vis lt L) (vis lt L).length=false:=by
     obtain⟨R9,hR9⟩:=hp.map Subtype.val
     have hR9:vl pre ++ R9=vis lt L:=by have h9:=hR9;rw[List.attach_map_subtype_val] at h9;exact h9
     obtain⟨P9,hP9⟩:∃ P9,vl pre=P9:=⟨_,rfl⟩
     rw[hP9] at hR9 hV
     obtain⟨V9,hV9⟩:∃ V9,vis lt L=V9:=⟨_,rfl⟩
     rw[hV9] at hR9 ⊢
     cases e9:vOk s V9 V9.length with
     | false=>rfl
     | true =>
      have h9:=vOk_le (i:=P9.length) (by rw[←hR9,List.length_append];exact Nat.le_add_right _ _) e9
      rw[←hR9,vOk_pre _ (Nat.le_refl _),hV] at h9
      cases h9
    have hLY:Hid (lyB s L=false):=hid (by unfold lyB;rw[HLT.out,hV9];simp)
    obtain⟨⟨e0,e1,e2,e3,e4,e5,e6,e7,e8,e9,e10⟩,_⟩:=zero_cells (hx1.but hbP (fun e=>by have e':w.heap.size+1=D:=e;omega))
    have ey:=(hx2.but hbP (fun e=>by have e':w.heap.size+1+1=D:=e;omega)).cell (o:=0) rfl
    have HK:=hid hK
    have HBW:=hid (hbW.andThen' hbP (fun k _ e=>by have:=HB3.out.size;omega))
    clear hx1 hx2 hV hV9 hbW hbP hK hp
    gi_wp2
    refine⟨by simp,.inl ⟨_,_,rfl,run_takeDeferred HK.out,?_⟩⟩
    exact⟨.tuple #[zeroLy,.bool false],by simp[results,Tryz.results62,go_sem,e0,e1,e2,e3,e4,e5,e6,e7,e8,e9,e10,ey,zeroLy],HBW.out,zeroLy,by rw[hLY.out],fun h=>(by rw[hLY.out] at h;cases h),fun _=>rfl⟩
  ·have HV:Hid (lyB s L=false):=hid (by unfold lyB;rw[decide_eq_false (by omega)];simp)
   have q0:((N:Int) != (n:Int))=true:=by simp;omega
   have q1:((N:Int) == (n:Int))=false:=by simp;omega
   have HR:=hid hr
   clear hr hNn hlen hLN
   go_enter Tryz.func62,Tryz.ntmps62
   go_wp2_with (go_at_call 75;(with_reducible refine(CR.out _ HW0.out).mono ?_);rintro e w1 ⟨rfl,h1⟩;obtain⟨b0,b1,b2,b3,b4,b5,b6,b7,b8⟩:=sys_cells (HX0.out.but h1 (fun f=>f));have HX1:=hid (HX.out.1.but h1 (fun f=>f));have HX2:=hid (HX.out.2.but h1 (fun f=>f));have HB1:=hid (HW0.out.trans h1);obtain⟨⟨f0,f1,f2,f3,f4,f5,f6,f7,f8,f9,f10⟩,g0,g1,g2,g3,g4,g5,g6,g7,g8,g9,g10⟩:=zero_cells HX1.out;have k0:=HX2.out.cell (o:=0) rfl;have k1:=HX2.out.frozen 0;clear h1)
   obtain⟨hz,hzb⟩:=blk_set11 HX1.out (.int .i64 0) (.int .i64 0) (.int .i64 0) (.int .i64 0) (.int .i64 0) (.int .i64 0) (.int .i64 0) (.int .i64 0) (.slice none 0 0) (.map none) (.slice none 0 0)
   generalize (((((((((((w1.setCell ⟨w.heap.size+1,0,none⟩ (.int .i64 0)).setCell ⟨w.heap.size+1,1,none⟩ (.int .i64 0)).setCell ⟨w.heap.size+1,2,none⟩ (.int .i64 0)).setCell ⟨w.heap.size+1,3,none⟩ (.int .i64 0)).setCell ⟨w.heap.size+1,4,none⟩ (.int .i64 0)).setCell ⟨w.heap.size+1,5,none⟩ (.int .i64 0)).setCell ⟨w.heap.size+1,6,none⟩ (.int .i64 0)).setCell ⟨w.heap.size+1,7,none⟩ (.int .i64 0)).setCell ⟨w.heap.size+1,8,none⟩ (.slice none 0 0)).setCell ⟨w.heap.size+1,9,none⟩ (.map none)).setCell ⟨w.heap.size+1,10,none⟩ (.slice none 0 0))=W2 at hz hzb ⊢
   have hy:=(HX2.out.but hzb (fun e=>by have e':w.heap.size+1+1=w.heap.size+1:=e;omega)).set 0 (.bool false)
   have hz2:=hz.other (a:=⟨w.heap.size+1+1,0,none⟩) (by show w.heap.size+1≠w.heap.size+1+1;omega) (.bool false)
   have hb2:=(hzb.mono (S':=fun k=>w.heap.size≤k) (fun k _ e=>by rw[show k=_ from e];omega)).setCell (p:=⟨w.heap.size+1+1,0,none⟩) (show w.heap.size≤w.heap.size+1+1 by omega) (.bool false)
   have hbn:=HB1.out.andThen' hb2 (fun k _ e=>e)
   obtain⟨⟨e0,e1,e2,e3,e4,e5,e6,e7,e8,e9,e10⟩,_⟩:=zero_cells hz2
   have ey:=hy.cell (o:=0) rfl
   refine bodyPost_ret (v:=.tuple #[zeroLy,.bool false]) (by simp[results,Tryz.results62,go_sem,e0,e1,e2,e3,e4,e5,e6,e7,e8,e9,e10,ey,zeroLy]) rfl ?_
   rw[HV.out]
   exact⟨hbn,zeroLy,rfl,fun h=>(by cases h),fun _=>rfl⟩
end Go.Proofs.YtikcigjbhohboaaGreat.pln
end
