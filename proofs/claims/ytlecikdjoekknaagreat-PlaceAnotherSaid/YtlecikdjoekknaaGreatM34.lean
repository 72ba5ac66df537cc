/- Part 34 of a proof: DeC6 DeC7 DeC8. -/
import Derived.Test.YtlecikdjoekknaaGreatM33
set_option maxRecDepth 100000
set_option maxHeartbeats 16000000
set_option linter.unusedVariables false
set_option linter.unusedSimpArgs false
section
namespace Go.Proofs.YtlecikdjoekknaaGreat.dem
open Go.Lib (hid)
open Go.ChangeShapes Go.WideShapes Go.ChangeAt Go.RowKit Go.Deep
def OQ (v u:Value):Nat->Prop:=λ k=>v.ownBlock=some k\/u.ownBlock=some k
def SS (w:World) (v u:Value) (x0 x1 rl:Int) (bc b3:Nat) (w':World):Prop :=
 w'.cell? ⟨b3,0,none⟩=some v/\w'.cell? ⟨b3,1,none⟩=some u/\w'.cell? ⟨b3+1,0,none⟩=some (.int .i64 x0)/\w'.cell? ⟨b3+1,1,none⟩=some (.int .i64 x1)/\w'.cell? ⟨bc,2,none⟩=some (.int .i64 rl)/\But (OQ v u) w w'/\∃ y0 y1,Blk w' (b3+1+1) #[y0,y1] 227
theorem cell_but {Q:Nat->Prop} {w1 w2:World} {b o:Nat} {v:Value} (h:w1.cell? ⟨b,o,none⟩=some v) (hb:But Q w1 w2) (hq:¬Q b):w2.cell? ⟨b,o,none⟩=some v:=by
 rw[hb.cell (World.block_lt_of_cell? w1 _ h) hq];exact h
theorem SS.but {w:World} {Q:Nat->Prop} {v u:Value} {x0 x1 rl:Int} {bc b3:Nat} {w1 w2:World} (h:SS w v u x0 x1 rl bc b3 w1) (hb:But Q w1 w2) (hq:∀ k,Q k->k≠bc/\k<b3/\OQ v u k):SS w v u x0 x1 rl bc b3 w2:=by
 obtain⟨h0,h1,h2,h3,h4,h6,y0,y1,h5⟩:=h
 have q0:¬Q b3:=λ h=>by have:=hq _ h;omega
 have q1:¬Q (b3+1):=λ h=>by have:=hq _ h;omega
 have q2:¬Q (b3+1+1):=λ h=>by have:=hq _ h;omega
 exact⟨cell_but h0 hb q0,cell_but h1 hb q0,cell_but h2 hb q1,cell_but h3 hb q1,cell_but h4 hb (λ h=>(hq _ h).1 rfl),h6.trans (hb.mono (λ k _ h=>(hq k h).2.2)),y0,y1,h5.but hb q2⟩
theorem SS.set {w:World} {v u:Value} {x0 x1 rl:Int} {bc b3:Nat} {w1:World} (a b:Value) (h:SS w v u x0 x1 rl bc b3 w1) (hc:bc<b3) (hw:w.heap.size<=b3):SS w v u x0 x1 rl bc b3 ((w1.setCell ⟨b3+1+1,0,none⟩ a).setCell ⟨b3+1+1,1,none⟩ b):=by
 obtain⟨h0,h1,h2,h3,h4,h6,y0,y1,h5⟩:=h
 have k:∀ (c o:Nat) (z:Value),c≠b3+1+1->w1.cell? ⟨c,o,none⟩=some z->((w1.setCell ⟨b3+1+1,0,none⟩ a).setCell ⟨b3+1+1,1,none⟩ b).cell? ⟨c,o,none⟩=some z:=λ c o z hb h=>by
  rw[World.cell?_setCell_other _ _ _ _ (by intro h9;simp only[Addr.mk.injEq] at h9;omega),World.cell?_setCell_other _ _ _ _ (by intro h9;simp only[Addr.mk.injEq] at h9;omega)];exact h
 exact⟨k _ _ _ (by omega) h0,k _ _ _ (by omega) h1,k _ _ _ (by omega) h2,k _ _ _ (by omega) h3,k _ _ _ (by omega) h4,(h6.setNew (by show w.heap.size<=b3+1+1;omega) _).setNew (by show w.heap.size<=b3+1+1;omega) _,a,b,(h5.set 0 a).set 1 b⟩
theorem own_ne {w:World} {v:Value} {zs:List Int} {b:Nat} {cur:Array Value} {e:TypeId} (h:Ov w v zs) (hb:Blk w b cur e) (he:e≠3):v.ownBlock≠some b:=λ f=>by
 obtain⟨_,h2⟩:=h
 rcases h2 with⟨rfl,_⟩ | ⟨g,cap,cur',rfl,_,hh,_⟩
 ·simp[Value.ownBlock] at f
 ·have:g=b:=by simpa [Value.ownBlock] using f
  subst this
  unfold Blk at hb
  rw[hh] at hb
  simp only[Option.some.injEq,Obj.cells.injEq] at hb
  exact he hb.2.1.symm
theorem Two.set {w wr:World} {v u:Value} {zs ts:List Int} {b:Nat} {cur:Array Value} {e:TypeId} (h:Two w wr v u zs ts) (hb:Blk wr b cur e) (he:e≠3) (hw:w.heap.size<=b) (o:Nat) (z:Value):Two w (wr.setCell ⟨b,o,none⟩ z) v u zs ts :=
 ⟨h.but.setNew hw _,h.o1.but (S:=Just b) ((But.refl _ wr).setCell (just b) z) (λ k e1 e2=>own_ne h.o1 hb he (by rw[e1,e2])),h.o2.but (S:=Just b) ((But.refl _ wr).setCell (just b) z) (λ k e1 e2=>own_ne h.o2 hb he (by rw[e1,e2])),h.n1,h.n2,h.ap⟩
theorem blk_reads {w:World} {k:Nat} {p q:Int} (h:Blk w k #[.int .i64 p,.int .i64 q] 3):Reads w (k+1) 1 (some ⟨k,0,none⟩) 2 [.int .i64 p,.int .i64 q] :=
 ⟨rfl,λ _=>⟨⟨k,0,none⟩,rfl,by simp,World.news_of_block (cs:=#[.int .i64 p,.int .i64 q]) (t:=3) (fr:=(0,0)) h⟩⟩
theorem step_two {ops:Array Oper} {o:Oper} {a:Act} {w:World} {K:Act->World->Prop} {Q:Exit->Act->World->Prop} {E:Prop} (hgd:o.guard=none) (s x:Operand)
  (ho:o.op=.call { callee:=.builtin .append,args:=#[s,x],argTypes:=#[26,26] }) (w0:World) (v u:Value) (zs ts:List Int) (hs:a.eval s=v) (k:Nat) (p q:Int) (hx:a.eval x=.slice (some ⟨k,0,none⟩) 2 2)
  (hT:Two w0 w v u zs ts) (hB:Blk w k #[.int .i64 p,.int .i64 q] 3) (hz:zs.length<=1000)
  (h:∀ A' c' w',Hid (Two w0 w' (.slice A' (zs.length+2) c') u (zs ++ [p,q]) ts)->Hid (But (λ k=>v.ownBlock=some k) w w')->K (a.put o.dst (.slice A' (zs.length+2) c')) w') :
  if Region.wanted o (yielded ops a.tmps)=true then Oper.wp Tryz.prog o a w K Q else E:=by
 obtain⟨i3,hi0,hz0,hz1,hz2⟩:=info_parts info3
 refine step_append_sh hgd s x 26 ho 3 i3 _ 1 8 Tryz.underlying26 hi0 hz0 hz1 hz2 rfl (by omega) v zs.length (zs.map (Value.int .i64)) hs hT.o1 (k+1) (some ⟨k,0,none⟩) 2 2 [.int .i64 p,.int .i64 q] hx (blk_reads hB) (two_cell p q) (by unfold maxLen;omega) (by omega) (λ A' c' w' h1 h2 h3=>h A' c' w' (hid (hT.app (ns:=[p,q]) rfl h1.out h2.out h3.out)) (hid ((But.refl _ w).grown h2.out (λ k e=>.inl e))))
theorem clo_shares (v u:Value) (zs ts:List Int) (x:Wk) (bc:Nat) (rl:Int) (w0 w:World) (h:Two w0 w v u zs ts) (hz:zs.length<=1000) (ht:ts.length<=1000) (hc:w0.cell? ⟨bc,2,none⟩=some (.int .i64 rl)) :
  Calls Tryz.prog 175 #[.agg #[v,u],wkV x,.pointer (some ⟨bc,0,none⟩)] w λ r w'=>∃ v' u',r=.returned (.agg #[v',u'])/\Two w0 w' v' u' (zs ++ [x.w,rl]) (ts ++ [x.p,x.p])/\But (OQ v u) w w':=by
 obtain⟨x0,x1,x2,x3⟩:=x
 have hbc0:bc<w0.heap.size:=World.block_lt_of_cell? w0 _ hc
 have hbw:=h.but
 have hsz:=hbw.size
 have hbc:bc<w.heap.size:=by omega
 have hbA:But No w (((w.alloc (.cells #[v,u] 227)).alloc (.cells #[.int .i64 x0,.int .i64 x1,.int .i64 x2,.bool x3] 161)).alloc (.cells #[.slice none 0 0,.slice none 0 0] 227)):=(((But.refl No w).alloc _).alloc _).alloc _
 have h3:Blk (((w.alloc (.cells #[v,u] 227)).alloc (.cells #[.int .i64 x0,.int .i64 x1,.int .i64 x2,.bool x3] 161)).alloc (.cells #[.slice none 0 0,.slice none 0 0] 227)) w.heap.size #[v,u] 227:=((Blk.new w _ _).alloc _).alloc _
 have h4:Blk (((w.alloc (.cells #[v,u] 227)).alloc (.cells #[.int .i64 x0,.int .i64 x1,.int .i64 x2,.bool x3] 161)).alloc (.cells #[.slice none 0 0,.slice none 0 0] 227)) (w.heap.size+1) #[.int .i64 x0,.int .i64 x1,.int .i64 x2,.bool x3] 161:=(blk2 w _ _ _).alloc _
 have h5:Blk (((w.alloc (.cells #[v,u] 227)).alloc (.cells #[.int .i64 x0,.int .i64 x1,.int .i64 x2,.bool x3] 161)).alloc (.cells #[.slice none 0 0,.slice none 0 0] 227)) (w.heap.size+1+1) #[.slice none 0 0,.slice none 0 0] 227:=by
  have:=blk2 (w.alloc (.cells #[v,u] 227)) (.cells #[.int .i64 x0,.int .i64 x1,.int .i64 x2,.bool x3] 161) #[.slice none 0 0,.slice none 0 0] 227
  rw[size_alloc1] at this;exact this
 have HS:Hid (SS w v u x0 x1 rl bc w.heap.size (((w.alloc (.cells #[v,u] 227)).alloc (.cells #[.int .i64 x0,.int .i64 x1,.int .i64 x2,.bool x3] 161)).alloc (.cells #[.slice none 0 0,.slice none 0 0] 227))):=hid ⟨h3.cell rfl,h3.cell rfl,h4.cell rfl,h4.cell rfl,cell_keep hc (hbw.trans hbA),hbA.no,_,_,h5⟩
 have HTA:Hid (Two w0 (((w.alloc (.cells #[v,u] 227)).alloc (.cells #[.int .i64 x0,.int .i64 x1,.int .i64 x2,.bool x3] 161)).alloc (.cells #[.slice none 0 0,.slice none 0 0] 227)) v u zs ts):=hid (h.no hbA)
 have HQ1:Hid (∀ k,v.ownBlock=some k->k≠bc/\k<w.heap.size/\OQ v u k):=hid (λ k e=>⟨by have:=h.n1 k e;omega,own_lt h.o1 e,Or.inl e⟩)
 have HQ2:Hid (∀ k,u.ownBlock=some k->k≠bc/\k<w.heap.size/\OQ v u k):=hid (λ k e=>⟨by have:=h.n2 k e;omega,own_lt h.o2 e,Or.inr e⟩)
 have HW:Hid (w0.heap.size<=w.heap.size):=hid hsz
 have HBC:=hid hbc
 have hsW:w.heap.size+3=(((w.alloc (.cells #[v,u] 227)).alloc (.cells #[.int .i64 x0,.int .i64 x1,.int .i64 x2,.bool x3] 161)).alloc (.cells #[.slice none 0 0,.slice none 0 0] 227)).heap.size:=by simp
 have HZ:=hid hz
 have HZT:=hid ht
 obtain⟨i3,hi0,hz0,hz1,hz2⟩:=info_parts info3
 have I3:Hid (Tryz.prog.info? 3=some i3/\i3.zero=some (.int .i64 0)/\i3.size=1/\i3.bytes=8):=⟨hi0,hz0,hz1,hz2⟩
 unfold wkV
 dsimp only
 clear h hz ht hc hbc0 hbw hsz hbc hbA h3 h4 h5 hi0 hz0 hz1 hz2
 go_enter Tryz.func175,Tryz.ntmps175
 go_upto_region 1 with fail
 generalize (((w.alloc (.cells #[v,u] 227)).alloc (.cells #[.int .i64 x0,.int .i64 x1,.int .i64 x2,.bool x3] 161)).alloc (.cells #[.slice none 0 0,.slice none 0 0] 227))=W0 at HS HTA hsW ⊢
 go_region_held3 (λ w'=>w'.cell? ⟨w.heap.size,0,none⟩=some v/\w'.cell? ⟨w.heap.size,1,none⟩=some u/\w'.cell? ⟨w.heap.size+1,0,none⟩=some (.int .i64 x0)/\w'.cell? ⟨w.heap.size+1,1,none⟩=some (.int .i64 x1)/\w'.cell? ⟨bc,2,none⟩=some (.int .i64 rl)/\But (OQ v u) w w'/\∃ y0 y1,Blk w' (w.heap.size+1+1) #[y0,y1] 227)
  (first | assumption | exact SS.but HS.out (But.refl No W0).drew (λ _ f=>False.elim f) | exact SS.set _ _ (by assumption) HBC.out (Nat.le_refl _) | exact SS.but (by assumption) HGF.out HQF.out | exact SS.but (by assumption) HG3.out HQ1.out | exact SS.but (by assumption) HG3.out HQ2.out | exact SS.but (by assumption) ((But.refl No _).alloc _) (λ _ f=>False.elim f))
  (first | (refine step_two rfl _ _ rfl w0 v u zs ts (by simp[Act.eval]) W0.drew.heap.size x0 rl (by simp[Act.eval]) (HTA.out.no (((But.refl No W0).drew).alloc _)) (Blk.new W0.drew _ _) HZ.out ?_;intro A3 c3 w3 HT3 HG3) | (refine step_two rfl _ _ rfl w0 v u zs ts (by simp[Act.eval]) W0.drew.heap.size x0 rl (by simp[Act.eval]) (HTA.out.no ((((But.refl No W0).drew).alloc _).alloc _)) ((Blk.new W0.drew _ _).alloc _) HZ.out ?_;intro A3 c3 w3 HT3 HG3) | (refine step_two rfl _ _ rfl w0 v u zs ts (by simp[Act.eval]) (W0.drew.alloc (.cells #[.int .i64 x1,.int .i64 x1] 3)).heap.size x0 rl (by simp[Act.eval]) (HTA.out.no ((((But.refl No W0).drew).alloc _).alloc _)) (Blk.new (W0.drew.alloc (.cells #[.int .i64 x1,.int .i64 x1] 3)) _ _) HZ.out ?_;intro A3 c3 w3 HT3 HG3) | (refine step_two rfl _ _ rfl w0 u (.slice A3 (zs.length+2) c3) ts (zs ++ [x0,rl]) (by simp[Act.eval]) w3.heap.size x1 x1 (by simp[Act.eval]) (HT3.out.no ((But.refl No w3).alloc _)).swap (Blk.new w3 _ _) HZT.out ?_;intro A5 c5 wF HTF0 HGF;have HTF:=hid HTF0.out.swap;have HQF:=hid HQ2.out;obtain⟨y0,y1,kB⟩:=(SS.but (by assumption) HGF.out HQF.out).2.2.2.2.2.2;have z0:=kB.frozen 0;have z1:=kB.frozen 1;have v0:=kB.cell (o:=0) rfl;have v1:=kB.cell (o:=1) rfl) | (refine step_two rfl _ _ rfl w0 u (.slice A3 (zs.length+2) c3) ts (zs ++ [x0,rl]) (by simp[Act.eval]) (W0.drew.alloc (.cells #[.int .i64 x0,.int .i64 rl] 3)).heap.size x1 x1 (by simp[Act.eval]) (HT3.out).swap ((Blk.new (W0.drew.alloc (.cells #[.int .i64 x0,.int .i64 rl] 3)) _ _).but HG3.out (λ e=>by have:=(HQ1.out _ e).2.1;simp at this;omega)) HZT.out ?_;intro A5 c5 wF HTF0 HGF;have HTF:=hid HTF0.out.swap;have HQF:=hid HQ2.out;obtain⟨y0,y1,kB⟩:=(SS.but (by assumption) HGF.out HQF.out).2.2.2.2.2.2;have z0:=kB.frozen 0;have z1:=kB.frozen 1;have v0:=kB.cell (o:=0) rfl;have v1:=kB.cell (o:=1) rfl) | (refine step_two rfl _ _ rfl w0 u (.slice A3 (zs.length+2) c3) ts (zs ++ [x0,rl]) (by simp[Act.eval]) W0.drew.heap.size x1 x1 (by simp[Act.eval]) (HT3.out).swap (((Blk.new W0.drew _ _).alloc _).but HG3.out (λ e=>by have:=(HQ1.out _ e).2.1;simp at this;omega)) HZT.out ?_;intro A5 c5 wF HTF0 HGF;have HTF:=hid HTF0.out.swap;have HQF:=hid HQ2.out;obtain⟨y0,y1,kB⟩:=(SS.but (by assumption) HGF.out HQF.out).2.2.2.2.2.2;have z0:=kB.frozen 0;have z1:=kB.frozen 1;have v0:=kB.cell (o:=0) rfl;have v1:=kB.cell (o:=1) rfl))
 all_goals
  rename_i hHeld
  have KF:=(kB.set 0 (.slice A3 (zs.length+2) c3)).set 1 (.slice A5 (ts.length+2) c5)
  have f0:=KF.cell (o:=0) rfl
  have f1:=KF.cell (o:=1) rfl
  clear KF
  have HW0:Hid (w0.heap.size<=w.heap.size+1+1):=hid (by have h1:=HTA.out.but.size;have h2:=HW.out;omega)
  go_wp2
  exact bodyPost_ret (v:=.agg #[.slice A3 (zs.length+2) c3,.slice A5 (ts.length+2) c5]) (by simp[results,Tryz.results175,go_sem,f0,f1]) rfl ⟨_,_,rfl,(HTF.out.set kB (by decide) HW0.out 0 _).set (kB.set 0 _) (by decide) HW0.out 1 _,hHeld.2.2.2.2.2.1⟩
def fdS (f:Int) (x:Wk):Int:=if x.top=true then f else if f<=x.d then f else x.d
def fdN (l:List Wk):Nat->Int
 | 0=>1099511627777
 | i+1=>fdS (fdN l i) (l.getD i wk0)
theorem fd_is {l:List Wk} (hok:∀ x ∈ l,okW x=true):∀ i,i<=l.length->(lsN l i=0/\fdN l i=1099511627777)\/(1<=lsN l i/\lsN l i<=1099511627776/\fdN l i=lsN l i)
 | 0,_=>.inl ⟨rfl,rfl⟩
 | i+1,hi=>by
  have hx:l[i]? = some l[i]:=List.getElem?_eq_getElem (by omega)
  obtain⟨_,_,d0,d9⟩:=okW_iff.1 (hok _ (List.mem_of_getElem? hx))
  have ih:=fd_is hok i (by omega)
  rw[lsN,fdN,getD_some hx]
  unfold fdS
  generalize lsN l i=a at ih ⊢
  generalize fdN l i=b at ih ⊢
  generalize l[i].d=d at d0 d9 ⊢
  cases ht:l[i].top with
  | true=>simp only[Bool.true_eq_false,false_and,↓reduceIte];exact ih
  | false =>
   simp only[Bool.false_eq_true,true_and,↓reduceIte]
   split <;> split <;> omega
theorem clo_first (f:Int) (x:Wk) (w:World):Calls Tryz.prog 159 #[.int .i64 f,wkV x] w λ e w'=>e=.returned (.int .i64 (fdS f x))/\But No w w':=by
 obtain⟨x0,x1,x2,x3⟩:=x
 unfold wkV
 cases x3 with
 | true =>
  have HE:Hid (fdS f ⟨x0,x1,x2,true⟩=f):=hid (by unfold fdS;rw[if_pos rfl])
  rw[HE.out]
  go_enter Tryz.func159,Tryz.ntmps159
  go_wp2
  go_ret
  exact⟨rfl,(But.refl No w).alloc _⟩
 | false =>
  by_cases h:f<=x2
  ·have HE:Hid (fdS f ⟨x0,x1,x2,false⟩=f):=hid (by unfold fdS;rw[if_neg (by simp),if_pos h])
   rw[HE.out]
   go_enter Tryz.func159,Tryz.ntmps159
   go_wp2
   go_ret
   exact⟨rfl,(But.refl No w).alloc _⟩
  ·have HE:Hid (fdS f ⟨x0,x1,x2,false⟩=x2):=hid (by unfold fdS;rw[if_neg (by simp),if_neg h])
   rw[HE.out]
   go_enter Tryz.func159,Tryz.ntmps159
   go_wp2
   go_ret
   exact⟨rfl,(But.refl No w).alloc _⟩
theorem foldI_any (A:Option Addr) (n c:Nat) (l:List Wk) (T:Nat->Int) (w:World) (h:RWk w A n l)
  (hF:∀ (i:Nat) (x:Wk) (W:World),l[i]? = some x->Calls Tryz.prog 159 #[.int .i64 (T i),wkV x] W λ e w'=>e=.returned (.int .i64 (T (i+1)))/\But No W w') :
  Calls Tryz.prog 158 #[.slice A n c,.int .i64 (T 0),.func (.func 159) #[] #[]] w λ e w'=>e=.returned (.int .i64 (T n))/\But No w w':=by
 have HN:=hid h.len
 have HL:=hid h
 have hmax:=h.max
 have HF:=hid hF
 clear h hF
 go_enter Tryz.func158,Tryz.ntmps158
 go_wp2_with fail
 go_loopw [1,11] (λ v i wr=>∃ q:Nat,v=.int .i64 (T q)/\i=.int .i64 (q:Int)/\q<=n/\Hid (But No w wr)) (λ _ i _=>n-(intOf i).toNat)
 case atStart=>exact⟨0,rfl,rfl,by omega,But.refl No w⟩
 case round =>
  obtain⟨q,rfl,rfl,hq,HBR⟩:=hrel
  by_cases hqn:q<n
  ·have hqn2:(q:Int)<(n:Int):=by omega
   have hq0:(0:Int)<=(q:Int):=Int.natCast_nonneg q
   obtain⟨x,hx⟩:∃ x,l[q]? = some x:=⟨_,List.getElem?_eq_getElem (by rw[HN.out];exact hqn)⟩
   obtain⟨b,off,rfl,_,e0,e1,e2,e3⟩:=(HL.out.no HBR.out).at1 hx
   have CF:Hid (∀ W,Calls Tryz.prog 159 #[.int .i64 (T q),wkV x] W λ e w'=>e=.returned (.int .i64 (T (q+1)))/\But No W w'):=hid (λ W=>HF.out q x W hx)
   clear hx
   obtain⟨x0,x1,x2,x3⟩:=x
   unfold wkV at CF
   dsimp only at e0 e1 e2 e3 CF
   generalize hT:T q=tq at CF ⊢
   clear hT
   go_wp2_with (go_at_call 159;(with_reducible refine(CF.out _).mono ?_);rintro e w1 ⟨rfl,hb1⟩;have HB1:=hid (HBR.out.trans (((But.refl No wr).alloc _).trans hb1));clear hb1)
   go_roundw
   case rel=>exact⟨q+1,rfl,by go_num,by omega,HB1.out⟩
   case measure=>simp[intOf];omega
  ·have HI:Hid (q=n):=hid (by omega)
   have b3:decide ((q:Int)<(n:Int))=false:=by simp;omega
   go_wp2
   go_ret
   exact⟨by rw[HI.out];rfl,HBR.out⟩
def fdV (l:List Wk):Int:=if least l=0 then 1099511627777 else least l
theorem fdV_is {l:List Wk} (hok:∀ x ∈ l,okW x=true):fdN l l.length=fdV l/\(least l=0\/1<=least l/\least l<=1099511627776):=by
 unfold fdV least
 rcases fd_is hok l.length (Nat.le_refl _)with⟨e1,e2⟩ | ⟨g1,g2,e2⟩
 ·rw[if_pos e1];exact⟨e2,.inl e1⟩
 ·rw[if_neg (by omega)];exact⟨e2,.inr ⟨g1,g2⟩⟩
theorem first_any (A:Option Addr) (n c:Nat) (l:List Wk) (bl rl:Int) (w:World) (h:RWk w A n l) (hok:∀ x ∈ l,okW x=true):Calls Tryz.prog 127 #[.agg #[.slice A n c,.int .i64 bl,.int .i64 rl]] w λ e w'=>e=.returned (.int .i64 (fdV l))/\But No w w':=by
 have CF:Hid (∀ W,But No w W->Calls Tryz.prog 158 #[.slice A n c,.int .i64 1099511627777,.func (.func 159) #[] #[]] W λ e w'=>e=.returned (.int .i64 (fdV l))/\But No W w'):=hid (λ W hb=>by
  have h9:=foldI_any A n c l (fdN l) W (h.no hb) (λ i x W' hx=>by rw[fdN,getD_some hx];exact clo_first _ x W')
  have e:fdN l n=fdV l:=by rw[<-h.len];exact(fdV_is hok).1
  rw[e] at h9
  exact h9)
 clear h hok
 go_enter Tryz.func127,Tryz.ntmps127
 go_wp2_with (go_at_call 158;(with_reducible refine(CF.out _ ((But.refl No w).alloc _)).mono ?_);rintro e wC ⟨rfl,hbC⟩;have HBC:=hid (((But.refl No w).alloc _).trans hbC);clear hbC)
 go_ret
 exact⟨rfl,HBC.out⟩
theorem Ov.any {w:World} {v:Value} {zs:List Int} (h:Ov w v zs):∃ A n c,v=.slice A n c:=by
 obtain⟨A,c,e,_⟩:=Ov.slice h
 exact⟨A,_,c,e⟩
structure FS (w wr:World) (v u:Value) (zs ts:List Int):Prop where
 two:Two w wr v u zs ts
 box:Blk wr w.heap.size #[v,u] 227
 res:Blk wr (w.heap.size+1) #[.slice none 0 0,.slice none 0 0] 227
theorem FS.start (w:World):FS w ((w.alloc (.cells #[.slice none 0 0,.slice none 0 0] 227)).alloc (.cells #[.slice none 0 0,.slice none 0 0] 227)) (.slice none 0 0) (.slice none 0 0) [] []:=⟨(Two.start w).no (((But.refl No w).alloc _).alloc _),(Blk.new w _ _).alloc _,blk2 w _ _ _⟩
theorem FS.no {w wr w2:World} {v u:Value} {zs ts:List Int} (h:FS w wr v u zs ts) (hb:But No wr w2):FS w w2 v u zs ts:=⟨h.two.no hb,h.box.but hb (λ f=>f),h.res.but hb (λ f=>f)⟩
theorem FS.next {w wr w2:World} {v u v' u':Value} {zs ts zs' ts':List Int} (h:FS w wr v u zs ts) (hT:Two w w2 v' u' zs' ts') (hb:But (OQ v u) wr w2):Blk w2 w.heap.size #[v,u] 227/\FS w ((w2.setCell ⟨w.heap.size,0,none⟩ v').setCell ⟨w.heap.size,1,none⟩ u') v' u' zs' ts':=by
 have q:∀ {b:Nat} {cur:Array Value},Blk wr b cur 227->¬OQ v u b:=λ hk f=>f.elim (λ e=>own_ne h.two.o1 hk (by decide) e) (λ e=>own_ne h.two.o2 hk (by decide) e)
 have hx:=h.box.but hb (q h.box)
 have hy:=h.res.but hb (q h.res)
 exact⟨hx,(hT.set hx (by decide) (Nat.le_refl _) 0 _).set (hx.set 0 _) (by decide) (Nat.le_refl _) 1 _,(hx.set 0 _).set 1 _,(hy.other (a:=⟨w.heap.size,0,none⟩) (Nat.succ_ne_self _) _).other (a:=⟨w.heap.size,1,none⟩) (Nat.succ_ne_self _) _⟩
theorem foldS_any (A:Option Addr) (n c:Nat) (l:List Wk) (rl:Int) (bc:Nat) (w:World) (h:RWk w A n l) (hn:n<=72) (hc:w.cell? ⟨bc,2,none⟩=some (.int .i64 rl)) :
  Calls Tryz.prog 174 #[.slice A n c,.agg #[.slice none 0 0,.slice none 0 0],.func (.func 175) #[] #[.pointer (some ⟨bc,0,none⟩)]] w λ e w'=>∃ v u,e=.returned (.agg #[v,u])/\Two w w' v u (wz rl l) (pz l):=by
 have HN:=hid h.len
 have HL:=hid h
 have hmax:=h.max
 have H0:=hid (FS.start w)
 have HC:=hid hc
 clear h hc
 go_enter Tryz.func174,Tryz.ntmps174
 go_wp2_with fail
 go_loopw [11] (λ i wr=>∃ (q:Nat) (A1:Option Addr) (n1 c1:Nat) (A2:Option Addr) (n2 c2:Nat),i=.int .i64 (q:Int)/\q<=n/\Hid (FS w wr (.slice A1 n1 c1) (.slice A2 n2 c2) (wz rl (l.take q)) (pz (l.take q)))) (λ i _=>n-(intOf i).toNat)
 case atStart=>exact⟨0,none,0,0,none,0,0,rfl,by omega,H0.out⟩
 case round =>
  obtain⟨q,A1,n1,c1,A2,n2,c2,rfl,hq,HT⟩:=hrel
  clear H0
  by_cases hqn:q<n
  ·have hqn2:(q:Int)<(n:Int):=by omega
   have hq0:(0:Int)<=(q:Int):=Int.natCast_nonneg q
   obtain⟨x,hx⟩:∃ x,l[q]? = some x:=⟨_,List.getElem?_eq_getElem (by rw[HN.out];exact hqn)⟩
   obtain⟨b,off,rfl,_,e0,e1,e2,e3⟩:=(HL.out.no HT.out.two.but).at1 hx
   have WS:=hid (wz_snoc (rl:=rl) hx)
   have PS:=hid (pz_snoc hx)
   have hlt:(l.take q).length=q:=by rw[List.length_take];have:=HN.out;omega
   have HWL:=hid (show (wz rl (l.take q)).length<=1000 by rw[wz_len,hlt];omega)
   have HPL:=hid (show (pz (l.take q)).length<=1000 by rw[pz_len,hlt];omega)
   clear hx hlt
   obtain⟨x0,x1,x2,x3⟩:=x
   dsimp only at e0 e1 e2 e3 WS PS
   have hTa:=HT.out.no ((But.refl No wr).alloc (.cells #[.int .i64 x0,.int .i64 x1,.int .i64 x2,.bool x3] 161))
   have s0:=HT.out.box.cell (o:=0) rfl
   have s1:=HT.out.box.cell (o:=1) rfl
   have r0:=hTa.box.cell (o:=0) rfl
   have r1:=hTa.box.cell (o:=1) rfl
   have HTA:=hid hTa
   clear hTa
   have CF:Hid (Calls Tryz.prog 175 #[.agg #[.slice A1 n1 c1,.slice A2 n2 c2],.agg #[.int .i64 x0,.int .i64 x1,.int .i64 x2,.bool x3],.pointer (some ⟨bc,0,none⟩)] (wr.alloc (.cells #[.int .i64 x0,.int .i64 x1,.int .i64 x2,.bool x3] 161)) λ r w'=>∃ v' u',r=.returned (.agg #[v',u'])/\Two w w' v' u' (wz rl (l.take q) ++ [x0,rl]) (pz (l.take q) ++ [x1,x1])/\But (OQ (.slice A1 n1 c1) (.slice A2 n2 c2)) (wr.alloc (.cells #[.int .i64 x0,.int .i64 x1,.int .i64 x2,.bool x3] 161)) w'):=hid (clo_shares (.slice A1 n1 c1) (.slice A2 n2 c2) _ _ ⟨x0,x1,x2,x3⟩ bc rl w _ HTA.out.two HWL.out HPL.out HC.out)
   go_wp2_with (go_at_call 175;(with_reducible refine CF.out.mono ?_);rintro e w1 ⟨v',u',rfl,hT1,hb1⟩;obtain⟨A3,n3,c3,hv3⟩:=Ov.any hT1.o1;obtain⟨A4,n4,c4,hv4⟩:=Ov.any hT1.o2;subst hv3;subst hv4;obtain⟨hx1,hS1⟩:=HTA.out.next hT1 hb1;have g0:=hx1.frozen 0;have g1:=hx1.frozen 1;have t0:=hx1.cell (o:=0) rfl;have t1:=hx1.cell (o:=1) rfl;have HS1:=hid hS1;clear hS1 hT1 hb1 hx1)
   go_roundw
   case rel=>exact⟨q+1,A3,n3,c3,A4,n4,c4,by go_num,by omega,by rw[WS.out,PS.out];exact HS1.out⟩
   case measure=>simp[intOf];omega
  ·have HI:Hid (q=n):=hid (by omega)
   have b3:decide ((q:Int)<(n:Int))=false:=by simp;omega
   have htk:l.take q=l:=List.take_of_length_le (by rw[HN.out];have:=HI.out;omega)
   rw[htk] at HT
   have s0:=HT.out.box.cell (o:=0) rfl
   have s1:=HT.out.box.cell (o:=1) rfl
   have g0:=HT.out.res.frozen 0
   have g1:=HT.out.res.frozen 1
   have t0:=HT.out.res.cell (o:=0) rfl
   have t1:=HT.out.res.cell (o:=1) rfl
   have KF:=(HT.out.res.set 0 (.slice A1 n1 c1)).set 1 (.slice A2 n2 c2)
   have f0:=KF.cell (o:=0) rfl
   have f1:=KF.cell (o:=1) rfl
   clear KF htk
   go_wp2
   exact bodyPost_ret (v:=.agg #[.slice A1 n1 c1,.slice A2 n2 c2]) (by simp[results,Tryz.results174,go_sem,f0,f1]) rfl ⟨_,_,rfl,(HT.out.two.set HT.out.res (by decide) (Nat.le_succ _) 0 _).set (HT.out.res.set 0 _) (by decide) (Nat.le_succ _) 1 _⟩
theorem tot_com {l:List Wk} {bl rl t:Int} {n:Nat} (h:l.length=n):tot bl (cmt rl t) t l n=(comV l bl rl t,comE l bl rl t):=by
 subst h
 unfold tot
 by_cases ho:comO l bl rl t=true
 ·rw[(com_out ho).1,(com_out ho).2];exact if_pos ho
 ·have ho':comO l bl rl t=false:=by simpa using ho
  rw[(com_in ho').1,(com_in ho').2];exact if_neg ho
theorem tot_ask {l:List Wk} {bl rl t:Int} {n:Nat} (h:l.length=n) (hr:right l bl rl=true) (ht:1<=t):tot bl (trm rl t) t l n=(askV l bl rl t,askE l bl rl t):=by
 subst h
 unfold tot
 rcases ask_cases l bl rl t with⟨_,_,e⟩ | ⟨_,_,o,e,v⟩ | ⟨_,_,o,e,v⟩
 ·exact absurd ⟨hr,ht⟩ e
 ·rw[e,v];exact if_pos o
 ·rw[e,v];exact if_neg (by rw[show ov bl (trm rl t) t l l.length=false from o];simp)
theorem demand_any (A:Option Addr) (n c:Nat) (l:List Wk) (bl rl t:Int) (w:World) (h:RWk w A n l) (hr:right l bl rl=true) (ht:1<=t/\t<=9223372036854775807) :
  Calls Tryz.prog 162 #[.agg #[.slice A n c,.int .i64 bl,.int .i64 rl],.int .i64 t] w λ e w'=>e=.returned (.tuple #[.int .i64 (askV l bl rl t),.int .i64 (askE l bl rl t)])/\But No w w':=by
 have h9:=dem_any A n c l bl rl t w h hr ht
 rw[tot_ask h.len hr ht.1] at h9
 exact h9
theorem arriving_any (A:Option Addr) (n c:Nat) (l:List Wk) (bl rl t:Int) (w:World) (h:RWk w A n l) (hr:right l bl rl=true) (ht:1<=t/\t<=9223372036854775807) :
  Calls Tryz.prog 161 #[.agg #[.slice A n c,.int .i64 bl,.int .i64 rl],.int .i64 t] w λ e w'=>e=.returned (.tuple #[.int .i64 (comV l bl rl t),.int .i64 (comE l bl rl t)])/\But No w w':=by
 have h9:=com_any A n c l bl rl t w h hr ht
 rw[tot_com h.len] at h9
 exact h9
theorem box_keep {w W:World} {A:Option Addr} {n c:Nat} {bl rl:Int} (hb:But No (w.alloc (.cells #[.slice A n c,.int .i64 bl,.int .i64 rl] 187)) W):W.cell? ⟨w.heap.size,0,none⟩=some (.slice A n c)/\W.cell? ⟨w.heap.size,1,none⟩=some (.int .i64 bl)/\W.cell? ⟨w.heap.size,2,none⟩=some (.int .i64 rl):=by
 have h:=(Blk.new w #[.slice A n c,.int .i64 bl,.int .i64 rl] 187).but hb (λ f=>f)
 exact⟨h.cell rfl,h.cell rfl,h.cell rfl⟩
theorem great_any (A:Option Addr) (n c:Nat) (l:List Wk) (bl rl:Int) (w:World) (h:RWk w A n l) (hr:right l bl rl=true):Calls Tryz.prog 160 #[.agg #[.slice A n c,.int .i64 bl,.int .i64 rl]] w λ e w'=>e=.returned (.bool (decide (4294967296<ldS rl l)))/\But No w w':=by
 have HN:=hid h.len
 obtain⟨hn72,⟨hb0,hb9⟩,⟨hr0,hr9⟩,hok⟩:=right_iff.1 hr
 have hn72':n<=72:=by have:=HN.out;omega
 have hwl:(wz rl l).length=2*n:=by rw[wz_len,HN.out]
 have hpl:(pz l).length=2*n:=by rw[pz_len,HN.out]
 have hfw:∀ z ∈ wz rl l,inR z:=λ z hz=>by
  obtain⟨x,hx,hm⟩:=List.mem_flatMap.1 hz
  have:=okW_iff.1 (hok x hx)
  simp only[List.mem_cons,List.not_mem_nil,or_false] at hm
  unfold inR;rcases hm with rfl | rfl <;> omega
 have hfp:∀ z ∈ pz l,inR z:=λ z hz=>by
  obtain⟨x,hx,hm⟩:=List.mem_flatMap.1 hz
  have:=okW_iff.1 (hok x hx)
  simp only[List.mem_cons,List.not_mem_nil,or_false] at hm
  unfold inR;rcases hm with rfl | rfl <;> omega
 have CF:Hid (Calls Tryz.prog 174 #[.slice A n c,.agg #[.slice none 0 0,.slice none 0 0],.func (.func 175) #[] #[.pointer (some ⟨w.heap.size,0,none⟩)]] (w.alloc (.cells #[.slice A n c,.int .i64 bl,.int .i64 rl] 187)) λ e w'=>∃ v u,e=.returned (.agg #[v,u])/\Two (w.alloc (.cells #[.slice A n c,.int .i64 bl,.int .i64 rl] 187)) w' v u (wz rl l) (pz l)):=hid (foldS_any A n c l rl w.heap.size _ (h.no ((But.refl No w).alloc _)) hn72' (box_keep (But.refl No _)).2.2)
 have CLL:Hid (∀ w2 v u,Two (w.alloc (.cells #[.slice A n c,.int .i64 bl,.int .i64 rl] 187)) w2 v u (wz rl l) (pz l)->∃ A7 n7 c7 A8 n8 c8,v=.slice A7 n7 c7/\u=.slice A8 n8 c8/\But No w w2/\∀ W,But No w2 W->Calls Tryz.prog 20 #[.slice A7 n7 c7,.slice A8 n8 c8] W λ e w'=>e=.returned (.tuple #[.int .i64 (qar.ldV (wz rl l) (pz l)),.int .i64 (qar.ldE (wz rl l) (pz l))])/\But No W w'):=hid (λ w2 v u hT=>by
  obtain⟨A7,c7,hv7,hr7⟩:=Ov.rdv hT.o1 (by omega) hfw
  obtain⟨A8,c8,hv8,hr8⟩:=Ov.rdv hT.o2 (by omega) hfp
  exact⟨A7,_,c7,A8,_,c8,hv7,hv8,((But.refl No w).alloc _).trans hT.but,λ W hb=>(qar.load_any A7 A8 _ _ c7 c8 (wz rl l) (pz l) W (hr7.no hb) (hr8.no hb)).mono (λ e w' ⟨h1,h2⟩=>⟨h1,h2.butNo⟩)⟩)
 have HLD:=ld_is hr
 have hmf:∀ (fn:Fn) (first cap:Array Value) (w:World),(Instr.makeFunc fn first cap).run Tryz.prog w=.ok (.func fn first cap) w:=λ _ _ _ _=>rfl
 clear h hr hb0 hb9 hr0 hr9 hok hwl hpl hfw hfp hn72
 generalize qar.ldV (wz rl l) (pz l)=V at CLL HLD
 generalize qar.ldE (wz rl l) (pz l)=E at CLL HLD
 have HEQ:Hid (∀ b:Bool,(b=true ↔ E≠0\/4294967296<V)->decide (4294967296<ldS rl l)=b):=hid (λ b hb=>by
  rcases HLD with⟨e,hV,h0,h1⟩ | ⟨e,hV,h1⟩
  ·cases b with
   | true=>have:=hb.1 rfl;simp;omega
   | false =>
    simp;have:¬(E≠0\/4294967296<V):=λ h=>by have:=hb.2 h;cases this
    omega
  ·have:b=true:=hb.2 (.inl (by omega))
   rw[this];simp;omega)
 clear HLD
 by_cases hE:E=0
 ·subst hE
  by_cases hV:4294967296<V
  ·rw[HEQ.out true (by simp[hV])]
   have b4:decide (4294967296<V)=true:=by simp[hV]
   clear HEQ
   go_enter Tryz.func160,Tryz.ntmps160
   go_wp2_with (first | (go_at_call 174;(with_reducible refine CF.out.mono ?_);rintro e w2 ⟨v,u,rfl,hT⟩;obtain⟨A7,n7,c7,A8,n8,c8,rfl,rfl,hb2,CL⟩:=CLL.out _ _ _ hT;have HB2:=hid hb2;have HCL:=hid CL;clear hb2 CL hT) | (go_at_call 20;(with_reducible refine(HCL.out _ ((But.refl No _).alloc _)).mono ?_);rintro e w3 ⟨rfl,hb3⟩;have HB3:=hid ((HB2.out.alloc _).trans hb3);clear hb3))
   go_ret
   exact⟨rfl,HB3.out⟩
  ·rw[HEQ.out false (by simp[hV])]
   have b4:decide (4294967296<V)=false:=by simp[hV]
   clear HEQ
   go_enter Tryz.func160,Tryz.ntmps160
   go_wp2_with (first | (go_at_call 174;(with_reducible refine CF.out.mono ?_);rintro e w2 ⟨v,u,rfl,hT⟩;obtain⟨A7,n7,c7,A8,n8,c8,rfl,rfl,hb2,CL⟩:=CLL.out _ _ _ hT;have HB2:=hid hb2;have HCL:=hid CL;clear hb2 CL hT) | (go_at_call 20;(with_reducible refine(HCL.out _ ((But.refl No _).alloc _)).mono ?_);rintro e w3 ⟨rfl,hb3⟩;have HB3:=hid ((HB2.out.alloc _).trans hb3);clear hb3))
   go_ret
   exact⟨rfl,HB3.out⟩
 ·rw[HEQ.out true (by simp[hE])]
  have b4:(E != 0)=true:=by simp[hE]
  have b5:decide (E=0)=false:=by simp[hE]
  clear HEQ
  go_enter Tryz.func160,Tryz.ntmps160
  go_wp2_with (first | (go_at_call 174;(with_reducible refine CF.out.mono ?_);rintro e w2 ⟨v,u,rfl,hT⟩;obtain⟨A7,n7,c7,A8,n8,c8,rfl,rfl,hb2,CL⟩:=CLL.out _ _ _ hT;have HB2:=hid hb2;have HCL:=hid CL;clear hb2 CL hT) | (go_at_call 20;(with_reducible refine(HCL.out _ ((But.refl No _).alloc _)).mono ?_);rintro e w3 ⟨rfl,hb3⟩;have HB3:=hid ((HB2.out.alloc _).trans hb3);clear hb3))
  go_ret
  exact⟨rfl,HB3.out⟩
end Go.Proofs.YtlecikdjoekknaaGreat.dem
end
