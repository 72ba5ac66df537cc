/- Part 49 of a proof: PcL PdS6 PdS7 PdS8. -/
import Derived.Test.YtikcigjbhohboaaGreatM05
import Derived.Test.YtikcigjbhohboaaGreatM12
import Derived.Test.YtikcigjbhohboaaGreatM22
import Derived.Test.YtikcigjbhohboaaGreatM48
section
namespace Go.Proofs.YtikcigjbhohboaaGreat.pln
set_option linter.unusedVariables false
open val
def prO : List Tsk→Int
 | []=>1
 | t :: l=>t.p*prO l
theorem prO_pos : ∀ {l:List Tsk},(∀ t ∈ l,0<t.p)→0<prO l
 | [],_=>by rw[prO];omega
 | t :: l,h=>by rw[prO];exact Int.mul_pos (h t (by simp)) (prO_pos (fun u hu=>h u (by simp[hu])))
theorem prO_dvd : ∀ {l:List Tsk} {t:Tsk},t ∈ l→t.p ∣ prO l
 | u :: l,t,h=>by
  rw[prO]
  rcases List.mem_cons.1 h with e | e
  ·rw[e];exact Int.dvd_mul_right _ _
  ·exact Int.dvd_trans (prO_dvd e) (Int.dvd_mul_left _ _)
def kyO (s:Sys) (i:Nat):Int:=-((s.ts.getD i ts0).w*(prO s.ts/(s.ts.getD i ts0).p))
theorem kyO_lt {s:Sys} (hp:∀ t ∈ s.ts,0<t.p) {i j:Nat} (hi:i<s.ts.length) (hj:j<s.ts.length):kyO s i<kyO s j ↔ lhO s j i<lhO s i j:=by
 have ei:s.ts[i]? = some s.ts[i]:=List.getElem?_eq_getElem hi
 have ej:s.ts[j]? = some s.ts[j]:=List.getElem?_eq_getElem hj
 have mi:=List.mem_of_getElem? ei
 have mj:=List.mem_of_getElem? ej
 have pi:=hp _ mi
 have pj:=hp _ mj
 have P:=prO_pos hp
 obtain⟨ki,hki⟩:=prO_dvd mi
 obtain⟨kj,hkj⟩:=prO_dvd mj
 unfold kyO lhO
 rw[getT ei,getT ej]
 generalize s.ts[i]=a at *
 generalize s.ts[j]=b at *
 have qi:prO s.ts/a.p=ki:=by rw[hki];exact Int.mul_ediv_cancel_left _ (by omega)
 have qj:prO s.ts/b.p=kj:=by rw[hkj];exact Int.mul_ediv_cancel_left _ (by omega)
 rw[qi,qj]
 have e1:b.w*kj*(a.p*b.p)=b.w*a.p*prO s.ts:=by rw[hkj];simp only[Int.mul_left_comm,Int.mul_comm]
 have e2:a.w*ki*(a.p*b.p)=a.w*b.p*prO s.ts:=by rw[hki];simp only[Int.mul_left_comm,Int.mul_comm]
 have hab:0<a.p*b.p:=Int.mul_pos pi pj
 constructor
 ·intro h
  have h1:b.w*kj<a.w*ki:=by omega
  have h2:=Int.mul_lt_mul_of_pos_right h1 hab
  rw[e1,e2] at h2
  exact Int.lt_of_mul_lt_mul_right h2 (by omega)
 ·intro h
  have h2:=Int.mul_lt_mul_of_pos_right h P
  rw[←e1,←e2] at h2
  have h1:=Int.lt_of_mul_lt_mul_right h2 (by omega)
  omega
theorem ord_is {s:Sys} (h:right s=true) {l:List Nat} (hm:∀ k,k ∈ l ↔ k<s.ts.length) (hs:l.Pairwise (pls.ltp (kyO s))):l=ordN s s.ts.length:=by
 have hp:∀ t ∈ s.ts,0<t.p:=fun t ht=>by
  obtain⟨i,hi,e⟩:=List.getElem_of_mem ht
  rcases per_pos h i with q | q
  ·rw[getT (List.getElem?_eq_getElem hi),e] at q;exact q
  ·omega
 refine ord_ext ?_ (ordN_sorted (per_pos h) _ (Nat.le_refl _)) (fun k=>by rw[hm,ordN_mem])
 refine List.Pairwise.imp_of_mem ?_ hs
 intro a b ha hb hab
 have la:=(hm a).1 ha
 have lb:=(hm b).1 hb
 have h1:=kyO_lt hp la lb
 have h2:=kyO_lt hp lb la
 unfold pls.ltp at hab
 unfold Bo
 rcases hab with q | ⟨q,q2⟩
 ·exact .inl (h1.1 q)
 ·refine .inr ⟨?_,q2⟩
  have n1:=mt h1.2 (by omega)
  have n2:=mt h2.2 (by omega)
  omega
end Go.Proofs.YtikcigjbhohboaaGreat.pln
end
section
namespace Go.Proofs.YtikcigjbhohboaaGreat.pls
open Go.ChangeShapes Go.WideShapes Go.ChangeAt Go.RowKit Go.Deep Go.Sort Go.Shelf val pln
abbrev CmpGrow : Prop:=∀ (a b c d:Int) (w:World),inR a→inR b→inR c→inR d→Calls Tryz.prog 106 #[.int .i64 a,.int .i64 b,.int .i64 c,.int .i64 d] w fun e w'=>e=.returned (.tuple #[.int .i64 (qar.cmV a b c d),.int .i64 (qar.cmE a b c d)])∧∃ q os',w'=grow (w.drewN q) os'
theorem grow_two (w:World) (o p:Obj) (q:Nat) (os:Array Obj):grow (((w.alloc o).alloc p).drewN q) os=grow (w.drewN q) (#[o,p] ++ os):=by
 rw[alloc_eq_grow,alloc_eq_grow,grow_grow]
 show grow (grow (w.drewN q) (#[o] ++ #[p])) os=_
 rw[grow_grow];rfl
set_option maxRecDepth 100000 in
theorem pcompare_any (CG:CmpGrow) (t u:Tsk) (A A':Option Addr) (n n' c c':Nat) (w:World) (ht:inR t.p∧inR t.w) (hu:inR u.p∧inR u.w) :
  Calls Tryz.prog 78 #[.agg (boxT t A n c),.agg (boxT u A' n' c')] w fun e w'=>e=.returned (.int .i64 (qar.cmV t.w t.p u.w u.p))∧∃ q os',w'=grow (w.drewN q) os':=by
 have CC:Hid (∀ W,Calls Tryz.prog 106 #[.int .i64 t.w,.int .i64 t.p,.int .i64 u.w,.int .i64 u.p] W fun e w'=>e=.returned (.tuple #[.int .i64 (qar.cmV t.w t.p u.w u.p),.int .i64 (qar.cmE t.w t.p u.w u.p)])∧∃ q os',w'=grow (W.drewN q) os'):=Lib.hid (fun W=>CG _ _ _ _ W ht.2 ht.1 hu.2 hu.1)
 have HG:Hid (∀ q os,∃ q1 os1,grow (((w.alloc (.cells (boxT t A n c) 97)).alloc (.cells (boxT u A' n' c') 97)).drewN q) os=grow (w.drewN q1) os1):=Lib.hid (fun q os=>⟨q,_,grow_two w _ _ q os⟩)
 generalize qar.cmV t.w t.p u.w u.p=z at CC ⊢
 generalize qar.cmE t.w t.p u.w u.p=z' at CC
 unfold boxT at HG ⊢
 go_enter Tryz.func78,Tryz.ntmps78
 go_wp2_with (go_at_call 106;refine(CC.out _).mono ?_;rintro e w1 ⟨rfl,q1,os1,h1⟩;have H1:=Lib.hid h1;clear h1)
 go_ret
 exact⟨rfl,by rw[H1.out];exact HG.out _ _⟩
def cl (n x:Nat):Nat:=if x<n then x else 0
theorem cl_lt {n x:Nat} (hn:0<n):cl n x<n:=by unfold cl;split <;> omega
def cmO (s:Sys) (i j:Nat):Int:=qar.cmV (s.ts.getD j ts0).w (s.ts.getD j ts0).p (s.ts.getD i ts0).w (s.ts.getD i ts0).p
set_option maxRecDepth 100000 in
set_option maxHeartbeats 2000000 in
theorem order1_any (CG:CmpGrow) {s:Sys} {A:Option Addr} {n c bs i j:Nat} {W:World} (hs:RSys W A n c s) (hb:Blk W bs (boxS s A n c) 24) (hi:i<n) (hj:j<n) :
  Calls Tryz.prog 77 #[.int .i64 (i:Int),.int .i64 (j:Int),.pointer (some ⟨bs,0,none⟩)] W fun e w'=>e=.returned (.int .i64 (cmO s i j))∧∃ q os',w'=grow (W.drewN q) os':=by
 have hnmax:=hs.ts.max
 have ei:s.ts[i]? = some (s.ts[i]'(by rw[hs.ts.len];exact hi)):=List.getElem?_eq_getElem _
 have ej:s.ts[j]? = some (s.ts[j]'(by rw[hs.ts.len];exact hj)):=List.getElem?_eq_getElem _
 have hci:cmO s i j=qar.cmV (s.ts[j]'(by rw[hs.ts.len];exact hj)).w (s.ts[j]'(by rw[hs.ts.len];exact hj)).p (s.ts[i]'(by rw[hs.ts.len];exact hi)).w (s.ts[i]'(by rw[hs.ts.len];exact hi)).p:=by unfold cmO;rw[getT ei,getT ej]
 rw[hci]
 have fi:=hs.ts.fit _ (List.mem_of_getElem? ei)
 have fj:=hs.ts.fit _ (List.mem_of_getElem? ej)
 generalize s.ts[i]'(by rw[hs.ts.len];exact hi)=t at *
 generalize s.ts[j]'(by rw[hs.ts.len];exact hj)=u at *
 obtain⟨b,off,AS,cS,eA,e0,e1,e2,e3,hlt,_⟩:=hs.ts.at1 ei
 obtain⟨b',off',AS',cS',eA',f0,f1,f2,f3,_⟩:=hs.ts.at1 ej
 rw[eA] at eA'
 cases eA'
 subst eA
 have hbl:b<W.heap.size:=World.block_lt_of_cell? W _ e0
 have mixed:Tryz.prog.follows .mixedOrders=true:=by kernel_rfl
 have k8:∀ nn os,(grow (W.drewN nn) os).cell? ⟨bs,8,none⟩=some (.slice (some ⟨b,off,none⟩) n c):=cell_grown (a:=⟨bs,8,none⟩) hb.lt (hb.cell (o:=8) rfl)
 have g0:=cell_grown (a:=⟨b,_,none⟩) hbl e0
 have g1:=cell_grown (a:=⟨b,_,none⟩) hbl e1
 have g2:=cell_grown (a:=⟨b,_,none⟩) hbl e2
 have g3:=cell_grown (a:=⟨b,_,none⟩) hbl e3
 have r0:=cell_grown (a:=⟨b,_,none⟩) hbl f0
 have r1:=cell_grown (a:=⟨b,_,none⟩) hbl f1
 have r2:=cell_grown (a:=⟨b,_,none⟩) hbl f2
 have r3:=cell_grown (a:=⟨b,_,none⟩) hbl f3
 have CC:Hid (∀ W',Calls Tryz.prog 78 #[.agg (boxT u AS' u.secs.length cS'),.agg (boxT t AS t.secs.length cS)] W' fun e w'=>e=.returned (.int .i64 (qar.cmV u.w u.p t.w t.p))∧∃ q os',w'=grow (W'.drewN q) os'):=Lib.hid (fun W'=>pcompare_any CG u t _ _ _ _ _ _ W' ⟨fj.1,fj.2.2⟩ ⟨fi.1,fi.2.2⟩)
 generalize qar.cmV u.w u.p t.w t.p=z at CC ⊢
 have hi2:(i:Int)<(n:Int):=by omega
 have hj2:(j:Int)<(n:Int):=by omega
 have hi0:(0:Int)≤(i:Int):=Int.natCast_nonneg i
 have hj0:(0:Int)≤(j:Int):=Int.natCast_nonneg j
 unfold boxT at CC
 clear e0 e1 e2 e3 f0 f1 f2 f3 hs hb ei ej hci fi fj
 obtain⟨tp,td,tw,tsec⟩:=t
 obtain⟨up,ud,uw,usec⟩:=u
 dsimp only at g0 g1 g2 g3 r0 r1 r2 r3 CC
 go_enter Tryz.func77,Tryz.ntmps77
 go_wp2_with fail
 go_quiet_grown (first | (go_at_call 78;refine Calls.grown_of (CC.out _)))
 go_wp2
 go_ret
 exact⟨rfl,nq,osq,rfl⟩
end Go.Proofs.YtikcigjbhohboaaGreat.pls
end
section
namespace Go.Proofs.YtikcigjbhohboaaGreat.pls
open Go.ChangeShapes Go.WideShapes Go.ChangeAt Go.RowKit Go.Deep Go.Sort Go.Shelf val pln
theorem sw_row {w W:World} {g n c:Nat} {nv:Nat→Int} {zs:List Value} (ho:w.ownsRow 0 3 1 (.slice (some ⟨g,0,none⟩) n c) n zs) {dk:Array Nat} (hd:dk.size=n) (h:SW (en nv) w g 0 dk W) :
  W.ownsRow 0 3 1 (.slice (some ⟨g,0,none⟩) n c) n (dk.toList.map (en nv))∧But (Just g) w W:=by
 obtain⟨h1,h2⟩:=ho
 rcases h2 with⟨h2,_⟩ | ⟨g',cap,cur,hv,hg0,hh,hc,hm,hs,ht⟩
 ·cases h2
 cases hv
 obtain⟨m,os,rfl⟩:=h
 have hlt:g<w.heap.size:=(Array.getElem?_eq_some_iff.1 hh).1
 have hsz:(w.heap.modify g (onCells (putCells (en nv) 0 dk))).size=w.heap.size:=Array.size_modify
 have hblk:∀ k,k<w.heap.size→(sortWorld (en nv) w g 0 m dk os).heap[k]? = (w.heap.modify g (onCells (putCells (en nv) 0 dk)))[k]?:=fun k hk=>by
  show ((w.heap.modify g (onCells (putCells (en nv) 0 dk))) ++ os)[k]? = _
  rw[Array.getElem?_append_left (by rw[hsz];exact hk)]
 refine⟨⟨by simp[hd],.inr ⟨g,c,putCells (en nv) 0 dk cur,rfl,hg0,?_,hc,hm,?_,?_⟩⟩,⟨rfl,rfl,rfl,?_,fun k hk hn=>?_⟩⟩
 ·rw[hblk g hlt,Array.getElem?_modify,if_pos rfl,hh];rfl
 ·unfold putCells;rw[Array.size_mapIdx];exact hs
 ·apply List.ext_getElem?
  intro j
  by_cases hj:j<n
  ·rw[List.getElem?_take_of_lt (by omega),Array.getElem?_toList]
   simp[putCells,hd,hj,show j<cur.size by omega]
  ·rw[List.getElem?_take_eq_none (by omega),List.getElem?_eq_none (by simp;omega)]
 ·show w.heap.size≤((w.heap.modify g _) ++ os).size
  rw[Array.size_append,hsz];omega
 ·rw[hblk k hk,Array.getElem?_modify,if_neg (fun e=>hn e.symm)]
theorem row_one {w:World} {g n c:Nat} {nv:Nat→Int} {zs:List Value} (ho:w.ownsRow 0 3 1 (.slice (some ⟨g,0,none⟩) n c) n zs) (hz:∀ j,j<n→zs[j]? = some (en nv j)):Row1 (en nv) w g 0 (List.range n).toArray:=by
 obtain⟨h1,h2⟩:=ho
 rcases h2 with⟨h2,_⟩ | ⟨g',cap,cur,hv,hg0,hh,hc,hm,hs,ht⟩
 ·cases h2
 cases hv
 refine⟨en_one nv,fun j hj=>?_,(Array.getElem?_eq_some_iff.1 hh).1⟩
 have hj':j<n:=by simpa using hj
 have hb:Blk w g cur 3:=hh
 refine⟨?_,hb.frozen _⟩
 rw[Nat.zero_add]
 refine hb.cell ?_
 have e:(cur.toList.take (n*1))[j]? = some (en nv j):=by rw[ht];exact hz j hj'
 rw[List.getElem?_take,if_pos (by omega),Array.getElem?_toList] at e
 rw[e,getElem!_pos _ j hj]
 simp
def nvO (n x:Nat):Int:=(cl n x:Int)
def kO (s:Sys) (n x:Nat):Int:=kyO s (cl n x)
theorem nv_is {n x:Nat} (h:x<n):en (nvO n) x=.int .i64 (x:Int):=by unfold en nvO cl;rw[if_pos h]
theorem cmp_is {s:Sys} {n:Nat} (hr:right s=true) (hn:s.ts.length=n) (h0:0<n) (x y:Nat):cmO s (cl n x) (cl n y)=cmpP (kO s n) x y:=by
 have hx:=cl_lt (x:=x) h0
 have hy:=cl_lt (x:=y) h0
 rw[←hn] at hx hy
 have hp:∀ t ∈ s.ts,1≤t.p∧1≤t.w:=fun t ht=>by
  have h6:=(right_parts hr).2 _ ht
  unfold vTsk vHead at h6
  simp only[Bool.and_eq_true,wi_true] at h6
  omega
 have hp0:∀ t ∈ s.ts,0<t.p:=fun t ht=>by have:=hp t ht;omega
 have ex:s.ts[cl s.ts.length x]? = some _:=List.getElem?_eq_getElem hx
 have ey:s.ts[cl s.ts.length y]? = some _:=List.getElem?_eq_getElem hy
 have px:=hp _ (List.mem_of_getElem? ex)
 have py:=hp _ (List.mem_of_getElem? ey)
 have k1:=kyO_lt hp0 hx hy
 have k2:=kyO_lt hp0 hy hx
 unfold cmO cmpP kO qar.cmV qar.sgn
 rw[←hn]
 unfold lhO at k1 k2
 rw[getT ex,getT ey] at *
 rw[if_neg (by omega)]
 by_cases h1:kyO s (cl s.ts.length x)<kyO s (cl s.ts.length y)
 ·rw[if_pos h1,if_pos (k1.1 h1)]
 ·rw[if_neg h1,if_neg (mt k1.2 h1)]
  by_cases h2:kyO s (cl s.ts.length y)<kyO s (cl s.ts.length x)
  ·rw[if_pos h2,if_pos (k2.1 h2)]
  ·rw[if_neg h2,if_neg (mt k2.2 h2)]
theorem cmp_lays (CG:CmpGrow) {s:Sys} {A:Option Addr} {n c bs g cap:Nat} {w0 w:World} {zs:List Value} (hs:RSys w0 A n c s) (hr:right s=true) (h0:0<n) (hb0:But No w0 w) (hbs:Blk w bs (boxS s A n c) 24) (ho:w.ownsRow 0 3 1 (.slice (some ⟨g,0,none⟩) n cap) n zs) (hg:w0.heap.size≤g) (hne:bs≠g) :
  CmpLays1 Tryz.prog 77 #[.pointer (some ⟨bs,0,none⟩)] (en (nvO n)) (cmpP (kO s n)) g 0 n w:=fun m os dk hd x y=>by
 obtain⟨_,hb⟩:=sw_row ho hd ⟨m,os,rfl⟩
 have hB:But No w0 (sortWorld (en (nvO n)) w g 0 m dk os):=hb0.andThen hb (fun k e=>.inr (by rw[e];exact hg))
 rw[←cmp_is hr hs.ts.len h0]
 exact order1_any CG (hs.no hB) (hbs.but hb hne) (cl_lt h0) (cl_lt h0)
set_option maxRecDepth 100000 in
set_option maxHeartbeats 2000000 in
theorem sort_any {KK:Nat} (ST:StableTo KK) (CG:CmpGrow) {s:Sys} {A:Option Addr} {n c bs g cap:Nat} {w0 w:World} {zs:List Value} (hs:RSys w0 A n c s) (hr:right s=true) (h0:0<n) (h24:n≤KK) (hb0:But No w0 w) (hbs:Blk w bs (boxS s A n c) 24) (ho:w.ownsRow 0 3 1 (.slice (some ⟨g,0,none⟩) n cap) n zs) (hz:∀ j,j<n→zs[j]? = some (.int .i64 (j:Int))) (hg:w0.heap.size≤g) (hne:bs≠g) :
  Calls Tryz.prog 76 #[.slice (some ⟨g,0,none⟩) n cap,.func (.func 77) #[] #[.pointer (some ⟨bs,0,none⟩)]] w fun e w'=>e=.returned (.tuple #[])∧But (Just g) w w'∧w'.ownsRow 0 3 1 (.slice (some ⟨g,0,none⟩) n cap) n (((ordN s n).map (fun i:Nat=>(i:Int))).map (Value.int .i64)):=by
 have hsz:(List.range n).toArray.size=n:=by simp
 have R:=row_one (nv:=nvO n) ho (fun j hj=>by rw[nv_is hj];exact hz j hj)
 have hT:Tks 0 (List.range n).toArray.size (List.range n).toArray:=fun i j _ hij hj=>by
  rw[getElem!_pos _ i (by omega),getElem!_pos _ j hj]
  simp[hij]
 have CS:=Lib.hid (ST (kO s n) (nvO n) g 0 cap (List.range n).toArray (List.range n).toArray w w 77 #[.pointer (some ⟨bs,0,none⟩)] (enters_of Tryz.func77 (by kernel_rfl) rfl) (by rw[hsz];exact cmp_lays CG hs hr h0 hb0 hbs ho hg hne) R rfl (SW.start R.hH) (by rw[hsz];exact h24) hT)
 rw[hsz] at CS
 have HF:Hid (∀ w',(∃ d',SW (en (nvO n)) w g 0 d' w'∧PermIn 0 n (List.range n).toArray d'∧Srt (kO s n) 0 n d')→But (Just g) w w'∧w'.ownsRow 0 3 1 (.slice (some ⟨g,0,none⟩) n cap) n (((ordN s n).map (fun i:Nat=>(i:Int))).map (Value.int .i64))):=Lib.hid (fun w' ⟨d',hS,p,srt⟩=>by
  have hd:d'.size=n:=p.1.trans hsz
  obtain⟨o,b⟩:=sw_row ho hd hS
  refine⟨b,?_⟩
  have hperm:d'.toList.Perm (List.range n):=by
   have q:=p.2.2
   have e1:d'.extract 0 n=d':=by rw[←hd];exact Array.extract_size
   have e2:(List.range n).toArray.extract 0 n=(List.range n).toArray:=by simp
   rw[e1,e2] at q
   simpa using q
  have hmem:∀ k,k ∈ d'.toList ↔ k<s.ts.length:=fun k=>by rw[hperm.mem_iff,hs.ts.len];simp
  have he:d'.toList=ordN s n:=by
   have:=ord_is hr hmem (by
    rw[List.pairwise_iff_getElem]
    intro i j hi hj hij
    have hj':j<d'.size:=by simpa using hj
    have:=srt i j (Nat.zero_le _) hij (by omega)
    rw[getElem!_pos d' i (by omega),getElem!_pos d' j hj'] at this
    have mi:=(hmem _).1 (List.getElem_mem hi)
    have mj:=(hmem _).1 (List.getElem_mem hj)
    rw[hs.ts.len] at mi mj
    unfold ltp kO cl at this
    simp only[Array.getElem_toList] at mi mj
    rw[if_pos mi,if_pos mj] at this
    simpa [ltp] using this)
   rw[hs.ts.len] at this
   exact this
  rw[List.map_map,←he]
  have e2:d'.toList.map (Value.int .i64 ∘ fun i:Nat=>(i:Int))=d'.toList.map (en (nvO n)):=List.map_congr_left (fun k hk=>by
   have:=(hmem k).1 hk
   rw[hs.ts.len] at this
   rw[nv_is this];rfl)
  rw[e2];exact o)
 clear hT R ho hbs hz
 go_enter Tryz.func76,Tryz.ntmps76
 go_wp2_with (go_at_call 105;refine CS.out.mono ?_;rintro e w1 ⟨rfl,hw1⟩;have HW1:=Lib.hid (HF.out _ hw1);clear hw1)
 go_end0
 exact⟨rfl,HW1.out⟩
end Go.Proofs.YtikcigjbhohboaaGreat.pls
end
section
namespace Go.Proofs.YtikcigjbhohboaaGreat.pls
set_option linter.unusedVariables false
open Go.Sort
theorem grew_grow {w w':World} (h:qar.Grew w w'):∃ q os',w'=grow (w.drewN q) os':=by
 refine⟨w'.drawn-w.drawn,w'.heap.extract w.heap.size w'.heap.size,?_⟩
 have hs:=h.below.size
 have hd:=h.draws
 have hh:w'.heap=w.heap ++ w'.heap.extract w.heap.size w'.heap.size:=by
  apply Array.ext_getElem?
  intro k
  rw[Array.getElem?_append]
  by_cases hk:k<w.heap.size
  ·rw[if_pos hk];exact h.below.block k hk
  ·rw[if_neg hk,Array.getElem?_extract]
   by_cases hk2:k<w'.heap.size
   ·rw[if_pos (by omega),show w.heap.size+(k-w.heap.size)=k by omega]
   ·rw[if_neg (by omega),Array.getElem?_eq_none (by omega)]
 have h1:=h.below.os
 have h2:=h.below.tape
 have h3:=h.below.output
 obtain⟨a,b,c,d,e⟩:=w'
 obtain⟨a',b',c',d',e'⟩:=w
 dsimp only at *
 subst h1 h2 h3
 unfold grow World.drewN
 dsimp only
 rw[←hh,show c'+(c-c')=c by omega]
theorem cmp_grow : CmpGrow:=fun a b c d w ha hb hc hd=>(qar.cmp_any a b c d ha hb hc hd w).mono fun e w' ⟨h1,h2⟩=>⟨h1,grew_grow h2⟩
end Go.Proofs.YtikcigjbhohboaaGreat.pls
end
