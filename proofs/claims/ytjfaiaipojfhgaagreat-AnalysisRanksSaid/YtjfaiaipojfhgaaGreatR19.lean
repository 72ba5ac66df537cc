/- Part 19 of a proof: PlR7 PlA PlR9. -/
import Derived.BigQuiet
import Derived.Deep.DeepCutAuto
import Derived.Deep.QuietTactic
import Derived.Test.YtjfaiaipojfhgaaGreatR14
import Derived.Test.YtjfaiaipojfhgaaGreatR18
section
namespace Go.Proofs.YtjfaiaipojfhgaaGreat.pln
open Go.Lib (hid)
open Go.ChangeShapes Go.WideShapes Go.ChangeAt Go.RowKit Go.Deep val ter
def ownV (s:Sys) (L:List (List Pc)) (i:Nat) (x:Pc):Int:=x.bu+s.fi+2*s.sw+(if 0≤(L.map whO).getD i 0 then extraV s (L.map whO) (i:Int) else 0)
theorem right_costs {s:Sys} (h:right s=true):(0≤s.re∧s.re≤50)∧(0≤s.sw∧s.sw≤50)∧0≤s.fi∧s.fi≤50:=by
 obtain⟨h1,_⟩:=right_parts h
 unfold vWhole at h1
 simp only[Bool.and_eq_true,wi_true] at h1
 omega
theorem extra_bd {s:Sys} (h:right s=true) (wh:List Int) (i:Int):0≤extraV s wh i∧extraV s wh i≤35184372088864:=by
 unfold extraV
 cases e:tsk? s i with
 | none=>dsimp only;omega
 | some t =>
  have ht:t ∈ s.ts:=by
   unfold tsk? at e
   split at e
   ·exact List.mem_of_getElem? e
   ·cases e
  have h4:=(right_len h).2.2.2.2 t ht
  have:=exN_le h wh i.toNat t.secs t.secs.length
  dsimp only
  omega
theorem whO_in {w:World} {A:Option Addr} {n:Nat} {L:List (List Pc)} (h:RPl w A n L):∀ k,inR ((L.map whO).getD k 0):=by
 intro k
 rw[List.getD_eq_getElem?_getD,List.getElem?_map]
 cases e:L[k]? with
 | none=>show inR 0;unfold inR;omega
 | some l =>
  show inR (whO l)
  obtain⟨b,off,A',c',_,_,_,_,hp⟩:=h.at1 e
  unfold whO
  split
  ·next hc =>
   have hl:l ≠ []:=by intro e;rw[e] at hc;simp at hc
   obtain⟨y,r,rfl⟩:=List.exists_cons_of_ne_nil hl
   exact(hp.fit y (by simp)).1
  ·unfold inR;omega
theorem rwhere_rd {A:Option Addr} {n c:Nat} {L:List (List Pc)} {w:World} (h:RPl w A n L) (hn:n≤1000):Calls Tryz.prog 27 #[.slice A n c] w fun e w'=>∃ B d,e=.returned (.slice B n d)∧But No w w'∧Rd w' B n (L.map whO):=by
 refine(rwhere_any A n c L w h hn).mono fun e w' ⟨v,he,hr⟩=>?_
 have hlen:(L.map whO).length=n:=by rw[List.length_map,h.len]
 obtain⟨B,d,rfl,_⟩:=hr.own.slice
 have hv:=hr.own
 obtain⟨hrl,_⟩:=hv.rl (by rw[hlen];omega)
 rw[hlen] at hrl he
 exact⟨B,d,he,hr.but,⟨hlen,by omega,hrl.at_,whO_in h⟩⟩
set_option maxRecDepth 100000 in
set_option maxHeartbeats 4000000 in
theorem rown_any (s:Sys) (A:Option Addr) (n c:Nat) (A':Option Addr) (N c':Nat) (L:List (List Pc)) (i k:Nat) (l:List Pc) (x:Pc) (w:World) (hs:RSys w A n c s) (hl:RPl w A' N L) (hr:right s=true) (hN:N≤24) (hi:L[i]? = some l) (hk:l[k]? = some x) (hb:0≤x.bu∧x.bu≤1099511627776) :
  Calls Tryz.prog 33 #[sysV s A n c,.slice A' N c',.int .i64 (i:Int),.int .i64 (k:Int)] w fun e w'=>e=.returned (.int .i64 (ownV s L i x))∧But No w w':=by
 have hiN:i<N:=by rw[←hl.len];exact(List.getElem?_eq_some_iff.1 hi).1
 have hkl:k<l.length:=(List.getElem?_eq_some_iff.1 hk).1
 have HCO:=hid (right_costs hr)
 obtain⟨⟨_,_⟩,⟨sw0,sw1⟩,fi0,fi1⟩:=HCO.out
 have HEX:=hid (extra_bd hr (L.map whO) (i:Int))
 have HOV:Hid (ownV s L i x=x.bu+s.fi+2*s.sw+(if 0≤(L.map whO).getD i 0 then extraV s (L.map whO) (i:Int) else 0)):=hid rfl
 generalize ownV s L i x=V at HOV ⊢
 have HB0:Hid (But No w (w.alloc (.cells (boxS s A n c) 24))):=hid ((But.refl No w).alloc _)
 have BS:=hid (Blk.new w (boxS s A n c) 24)
 have BK:Hid (∀ W,But No (w.alloc (.cells (boxS s A n c) 24)) W→S9 W w.heap.size s A n c):=hid (fun W hb=>sys_cells (BS.out.but hb (fun f=>f)))
 have HL:=hid (hl.no HB0.out)
 have CW:Hid (∀ W,But No w W→Calls Tryz.prog 27 #[.slice A' N c'] W fun e w'=>∃ B d,e=.returned (.slice B N d)∧But No W w'∧Rd w' B N (L.map whO)):=hid (fun W hb=>rwhere_rd (hl.no hb) (by omega))
 have CE:Hid (∀ W B d,But No w W→Rd W B N (L.map whO)→Calls Tryz.prog 54 #[sysV s A n c,.slice B N d,.int .i64 (i:Int)] W fun e w'=>e=.returned (.int .i64 (extraV s (L.map whO) (i:Int)))∧But No W w'):=hid (fun W B d hb hz=>dextra_any s A n c B N d (L.map whO) (i:Int) W (hs.no hb) hz)
 generalize extraV s (L.map whO) (i:Int)=E at HEX HOV CE
 obtain⟨b,off,A1,c1,rfl,_,e0,_,hp⟩:=HL.out.at1 hi
 obtain⟨b1,off1,rfl,_,_,p1,_,_,_⟩:=hp.at1 hk
 obtain⟨m1,hm1⟩:∃ m1,l.length=m1:=⟨_,rfl⟩
 rw[hm1] at e0 hkl
 obtain⟨k0,k1,k2,k3,k4,k5,k6,k7,k8⟩:=BK.out _ (But.refl No _)
 have hi0:(0:Int)≤(i:Int):=Int.natCast_nonneg i
 have hk0:(0:Int)≤(k:Int):=Int.natCast_nonneg k
 have hi1:(i:Int)<(N:Int):=by omega
 have hk1:(k:Int)<(m1:Int):=by omega
 obtain⟨P,hP⟩:∃ P,x.bu+s.fi+2*s.sw=P:=⟨_,rfl⟩
 have HP:=hid hP
 rw[hP] at HOV
 have hPb:0≤P∧P≤1099511628000:=by omega
 have w1:IntKind.i64.wrap (x.bu+s.fi)=x.bu+s.fi:=IntWalk.i64_in _ (by omega)
 have w2:IntKind.i64.wrap (2*s.sw)=2*s.sw:=IntWalk.i64_in _ (by omega)
 have w3:IntKind.i64.wrap (x.bu+s.fi+2*s.sw)=P:=by rw[IntWalk.i64_in _ (by omega)];exact hP
 clear hs hl hr hi hk hp hm1 hP HL
 obtain⟨co,bu,de,pr,ti⟩:=x
 dsimp only at p1 w1 w2 w3 hb
 obtain⟨sco,spo,spr,sre,ssw,sfi,sla,srs,sts⟩:=s
 dsimp only at *
 unfold sysV at CE ⊢
 unfold boxS at *
 dsimp only at *
 go_enter Tryz.func33,Tryz.ntmps33
 go_upto_region 1 with fail
 go_quiet (fail)
 have HBQ:Hid (But No (w.alloc (.cells #[.int .i64 sco,.int .i64 spo,.int .i64 spr,.int .i64 sre,.int .i64 ssw,.int .i64 sfi,.int .i64 sla,.int .i64 srs,.slice A n c] 24)) ((w.alloc (.cells #[.int .i64 sco,.int .i64 spo,.int .i64 spr,.int .i64 sre,.int .i64 ssw,.int .i64 sfi,.int .i64 sla,.int .i64 srs,.slice A n c] 24)).drewN nq)):=hid ((But.refl No _).drewN _)
 generalize (w.alloc (.cells #[.int .i64 sco,.int .i64 spo,.int .i64 spr,.int .i64 sre,.int .i64 ssw,.int .i64 sfi,.int .i64 sla,.int .i64 srs,.slice A n c] 24)).drewN nq=wq at HBQ ⊢
 clear e0 p1 k0 k1 k2 k3 k4 k5 k6 k7 k8 w1 w2 w3
 go_upto_region 3 with(go_at_call 27;(with_reducible refine(CW.out _ (HB0.out.trans HBQ.out)).mono ?_);rintro e w1 ⟨B,d,rfl,hb1,hrd⟩;have HBK:=hid (HBQ.out.trans hb1);have HRD:=hid hrd;have HB1:=hid (HB0.out.trans HBK.out);clear hb1 hrd)
 obtain⟨k0,k1,k2,k3,k4,k5,k6,k7,k8⟩:=BK.out _ HBK.out
 obtain⟨wb,wo,rfl,_,hwc⟩:=HRD.out.at_ (by omega)
 have hw:=hwc i hiN
 obtain⟨z,hz⟩:∃ z,(L.map whO).getD i 0=z:=⟨_,rfl⟩
 rw[hz] at hw HOV
 have CE2:=hid (CE.out w1 _ d HB1.out HRD.out)
 clear hwc hz CE
 by_cases h0:0≤z
 ·rw[if_pos h0] at HOV
  have b1:decide (0≤z)=true:=by simp[h0]
  have hPE:0≤P+E∧P+E≤1099511627776000:=by have:=HEX.out;omega
  go_wp2_with (go_at_call 54;(with_reducible refine CE2.out.mono ?_);rintro e w2 ⟨rfl,hb2⟩;have HB2:=hid (HB1.out.trans hb2);clear hb2)
  go_ret
  exact⟨ret1 HOV.out.symm,HB2.out⟩
 ·rw[if_neg h0] at HOV
  have b1:decide (0≤z)=false:=by simp;omega
  go_wp2_with fail
  go_ret
  exact⟨ret1 (by rw[HOV.out];omega),HB1.out⟩
end Go.Proofs.YtjfaiaipojfhgaaGreat.pln
end
section
namespace Go.Proofs.YtjfaiaipojfhgaaGreat.pln
open Go.ChangeShapes Go.WideShapes Go.ChangeAt Go.RowKit Go.Deep val ter
structure Ap where
 p:Pc
 i:Nat
 k:Nat
def apC (x:Ap):List Value:=[.int .i64 x.p.co,.int .i64 x.p.bu,.int .i64 x.p.de,.int .i64 x.p.pr,.bool x.p.ti,.int .i64 (x.i:Int),.int .i64 (x.k:Int)]
def apL (c:Int) (i:Nat) (l:List Pc):Nat→List Ap
 | 0=>[]
 | k+1=>apL c i l k ++ if (l.getD k pc0).co=c then [⟨l.getD k pc0,i,k⟩] else []
def apN (c:Int) (L:List (List Pc)):Nat→List Ap
 | 0=>[]
 | i+1=>apN c L i ++ apL c i (L.getD i []) (L.getD i []).length
def apS (c:Int) (L:List (List Pc)):List Ap:=apN c L L.length
theorem apL_next {c:Int} {i:Nat} {l:List Pc} {k:Nat} {x:Pc} (h:l[k]? = some x):apL c i l (k+1)=apL c i l k ++ if x.co=c then [⟨x,i,k⟩] else []:=by rw[apL,getD_some h]
theorem apN_next {c:Int} {L:List (List Pc)} {i:Nat} {l:List Pc} (h:L[i]? = some l):apN c L (i+1)=apN c L i ++ apL c i l l.length:=by rw[apN,getL h]
theorem apL_mem {c:Int} {i:Nat} {l:List Pc} {y:Ap}:∀ {k:Nat},k≤l.length→y ∈ apL c i l k→y.i=i∧l[y.k]? = some y.p∧y.p.co=c∧y.k<k
 | 0,_,h=>by simp[apL] at h
 | k+1,hk,h=>by
  have hx:l[k]? = some l[k]:=List.getElem?_eq_getElem (by omega)
  rw[apL_next hx,List.mem_append] at h
  rcases h with h | h
  ·obtain⟨h1,h2,h3,h4⟩:=apL_mem (by omega) h
   exact⟨h1,h2,h3,by omega⟩
  ·split at h
   ·next hc =>
    rw[List.mem_singleton] at h
    subst h
    exact⟨rfl,hx,hc,by show k<k+1;omega⟩
   ·simp at h
theorem apN_mem {c:Int} {L:List (List Pc)} {y:Ap}:∀ {i:Nat},i≤L.length→y ∈ apN c L i→∃ l,L[y.i]? = some l∧l[y.k]? = some y.p∧y.p.co=c∧y.i<i
 | 0,_,h=>by simp[apN] at h
 | i+1,hi,h=>by
  have hl:L[i]? = some L[i]:=List.getElem?_eq_getElem (by omega)
  rw[apN_next hl,List.mem_append] at h
  rcases h with h | h
  ·obtain⟨l,h1,h2,h3,h4⟩:=apN_mem (by omega) h
   exact⟨l,h1,h2,h3,by omega⟩
  ·obtain⟨h1,h2,h3,_⟩:=apL_mem (Nat.le_refl _) h
   exact⟨L[i],by rw[h1];exact hl,h2,h3,by omega⟩
theorem apS_mem {c:Int} {L:List (List Pc)} {y:Ap} (h:y ∈ apS c L):∃ l,L[y.i]? = some l∧l[y.k]? = some y.p∧y.p.co=c:=by
 obtain⟨l,h1,h2,h3,_⟩:=apN_mem (Nat.le_refl _) h
 exact⟨l,h1,h2,h3⟩
structure RAp (w:World) (A:Option Addr) (n:Nat) (l:List Ap):Prop where
 len:l.length=n
 max:n≤9223372036854775807
 at_:0<n→∃ b off,A=some ⟨b,off,none⟩∧b<w.heap.size∧∀ k x,l[k]? = some x→w.cell? ⟨b,off+k*7,none⟩=some (.int .i64 x.p.co)∧w.cell? ⟨b,off+k*7+1,none⟩=some (.int .i64 x.p.bu)∧w.cell? ⟨b,off+k*7+2,none⟩=some (.int .i64 x.p.de)∧w.cell? ⟨b,off+k*7+3,none⟩=some (.int .i64 x.p.pr)∧w.cell? ⟨b,off+k*7+4,none⟩=some (.bool x.p.ti)∧w.cell? ⟨b,off+k*7+5,none⟩=some (.int .i64 (x.i:Int))∧w.cell? ⟨b,off+k*7+6,none⟩=some (.int .i64 (x.k:Int))
theorem RAp.no {w w':World} {A:Option Addr} {n:Nat} {l:List Ap} (h:RAp w A n l) (hb:But No w w'):RAp w' A n l :=
 ⟨h.len,h.max,fun hn=>by
  obtain⟨b,off,e,hl,hc⟩:=h.at_ hn
  refine⟨b,off,e,Nat.lt_of_lt_of_le hl hb.size,fun k x hx=>?_⟩
  obtain⟨h0,h1,h2,h3,h4,h5,h6⟩:=hc k x hx
  exact⟨cell_keep h0 hb,cell_keep h1 hb,cell_keep h2 hb,cell_keep h3 hb,cell_keep h4 hb,cell_keep h5 hb,cell_keep h6 hb⟩⟩
theorem RAp.at1 {w:World} {A:Option Addr} {n:Nat} {l:List Ap} (h:RAp w A n l) {k:Nat} {x:Ap} (hx:l[k]? = some x) :
  ∃ b off,A=some ⟨b,off,none⟩∧b<w.heap.size∧w.cell? ⟨b,off+k*7,none⟩=some (.int .i64 x.p.co)∧w.cell? ⟨b,off+k*7+1,none⟩=some (.int .i64 x.p.bu)∧w.cell? ⟨b,off+k*7+2,none⟩=some (.int .i64 x.p.de)∧w.cell? ⟨b,off+k*7+3,none⟩=some (.int .i64 x.p.pr)∧w.cell? ⟨b,off+k*7+4,none⟩=some (.bool x.p.ti)∧w.cell? ⟨b,off+k*7+5,none⟩=some (.int .i64 (x.i:Int))∧w.cell? ⟨b,off+k*7+6,none⟩=some (.int .i64 (x.k:Int)):=by
 have hk:k<l.length:=(List.getElem?_eq_some_iff.1 hx).1
 obtain⟨b,off,e,hl,hc⟩:=h.at_ (by rw[←h.len];omega)
 exact⟨b,off,e,hl,hc k x hx⟩
theorem RAp.butS {w w':World} {A:Option Addr} {n:Nat} {l:List Ap} {S:Nat→Prop} (h:RAp w A n l) (hb:But S w w') (hs:∀ b off,A=some ⟨b,off,none⟩→¬S b):RAp w' A n l :=
 ⟨h.len,h.max,fun hn=>by
  obtain⟨b,off,e,hl,hc⟩:=h.at_ hn
  have h9:=hs b off e
  refine⟨b,off,e,Nat.lt_of_lt_of_le hl hb.size,fun k x hx=>?_⟩
  obtain⟨h0,h1,h2,h3,h4,h5,h6⟩:=hc k x hx
  exact⟨(hb.cell hl h9).trans h0,(hb.cell hl h9).trans h1,(hb.cell hl h9).trans h2,(hb.cell hl h9).trans h3,(hb.cell hl h9).trans h4,(hb.cell hl h9).trans h5,(hb.cell hl h9).trans h6⟩⟩
def OAp (w:World) (v:Value) (l:List Ap):Prop:=w.ownsRow 0 86 7 v l.length (l.flatMap apC)
theorem OAp.nil (w:World):OAp w (.slice none 0 0) []:=World.ownsRow_nil _ _ _ _
theorem OAp.but {w w':World} {v:Value} {l:List Ap} {S:Nat→Prop} (h:OAp w v l) (hb:But S w w') (hs:∀ k,v.ownBlock=some k→¬S k):OAp w' v l:=owns_but h hb hs
theorem apC_at {l:List Ap} {k:Nat} {x:Ap} (h:l[k]? = some x):(l.flatMap apC)[k*7]? = some (.int .i64 x.p.co)∧(l.flatMap apC)[k*7+1]? = some (.int .i64 x.p.bu)∧(l.flatMap apC)[k*7+2]? = some (.int .i64 x.p.de)∧(l.flatMap apC)[k*7+3]? = some (.int .i64 x.p.pr)∧(l.flatMap apC)[k*7+4]? = some (.bool x.p.ti)∧(l.flatMap apC)[k*7+5]? = some (.int .i64 (x.i:Int))∧(l.flatMap apC)[k*7+6]? = some (.int .i64 (x.k:Int)):=by
 induction l generalizing k with
 | nil=>simp at h
 | cons y l ih =>
  rw[List.flatMap_cons]
  cases k with
  | zero =>
   rw[List.getElem?_cons_zero] at h
   cases h
   exact⟨rfl,rfl,rfl,rfl,rfl,rfl,rfl⟩
  | succ k =>
   rw[List.getElem?_cons_succ] at h
   obtain⟨h0,h1,h2,h3,h4,h5,h6⟩:=ih h
   have e:(apC y).length=7:=rfl
   refine⟨?_,?_,?_,?_,?_,?_,?_⟩
   ·rw[List.getElem?_append_right (by rw[e];omega),e,show (k+1)*7-7=k*7 by omega];exact h0
   ·rw[List.getElem?_append_right (by rw[e];omega),e,show (k+1)*7+1-7=k*7+1 by omega];exact h1
   ·rw[List.getElem?_append_right (by rw[e];omega),e,show (k+1)*7+2-7=k*7+2 by omega];exact h2
   ·rw[List.getElem?_append_right (by rw[e];omega),e,show (k+1)*7+3-7=k*7+3 by omega];exact h3
   ·rw[List.getElem?_append_right (by rw[e];omega),e,show (k+1)*7+4-7=k*7+4 by omega];exact h4
   ·rw[List.getElem?_append_right (by rw[e];omega),e,show (k+1)*7+5-7=k*7+5 by omega];exact h5
   ·rw[List.getElem?_append_right (by rw[e];omega),e,show (k+1)*7+6-7=k*7+6 by omega];exact h6
theorem OAp.rd {w:World} {v:Value} {l:List Ap} (h:OAp w v l) (hm:l.length≤9223372036854775807):∃ A c,v=.slice A l.length c∧l.length≤c∧(∀ b off,A=some ⟨b,off,none⟩→(Value.slice A l.length c).ownBlock=some b)∧RAp w A l.length l:=by
 obtain⟨h1,h2⟩:=h
 rcases h2 with⟨h2,e⟩ | ⟨g,cap,cur,hv,_,hh,hc,hcap,hs,ht⟩
 ·exact⟨none,0,by rw[e];exact h2,by omega,(fun b off h=>by cases h),rfl,hm,fun h=>absurd h (by omega)⟩
 ·refine⟨_,_,hv,hc,(fun b off e=>by cases e;rfl),rfl,hm,fun hn=>⟨g,0,rfl,Blk.lt hh,fun k x hx=>?_⟩⟩
  have hk:k<l.length:=(List.getElem?_eq_some_iff.1 hx).1
  obtain⟨a0,a1,a2,a3,a4,a5,a6⟩:=apC_at hx
  have rdc:∀ j u,j<l.length*7→(l.flatMap apC)[j]? = some u→w.cell? ⟨g,0+j,none⟩=some u:=fun j u hj hu=>by
   rw[Nat.zero_add]
   refine Blk.cell hh ?_
   rw[←ht,List.getElem?_take,if_pos hj] at hu
   simpa using hu
  refine⟨rdc _ _ (by omega) a0,?_,?_,?_,?_,?_,?_⟩
  ·have:=rdc (k*7+1) _ (by omega) a1;rw[←Nat.add_assoc] at this;exact this
  ·have:=rdc (k*7+2) _ (by omega) a2;rw[←Nat.add_assoc] at this;exact this
  ·have:=rdc (k*7+3) _ (by omega) a3;rw[←Nat.add_assoc] at this;exact this
  ·have:=rdc (k*7+4) _ (by omega) a4;rw[←Nat.add_assoc] at this;exact this
  ·have:=rdc (k*7+5) _ (by omega) a5;rw[←Nat.add_assoc] at this;exact this
  ·have:=rdc (k*7+6) _ (by omega) a6;rw[←Nat.add_assoc] at this;exact this
structure Ra (w wr:World) (v:Value) (l:List Ap):Prop where
 but:But No w wr
 own:OAp wr v l
 new:∀ k,v.ownBlock=some k→w.heap.size≤k
theorem Ra.no {w wr w2:World} {v:Value} {l:List Ap} (h:Ra w wr v l) (hb:But No wr w2):Ra w w2 v l:=⟨h.but.trans hb,h.own.but hb (fun _ _ f=>f),h.new⟩
theorem Ra.start (w:World):Ra w w (.slice none 0 0) []:=⟨But.refl No w,OAp.nil w,own_none⟩
theorem Ra.app {w wr w2:World} {v:Value} {l k:List Ap} {A:Option Addr} {c n:Nat} (h:Ra w wr v l) (hn:n=l.length+k.length) (ho:w2.ownsRow 0 86 7 (.slice A n c) n (l.flatMap apC ++ k.flatMap apC)) (hg:wr.grownBy w2 v.ownBlock)
  (hat:(Value.slice A n c).ownBlock=v.ownBlock∨(Value.slice A n c).ownBlock=some wr.heap.size):Ra w w2 (.slice A n c) (l ++ k):=by
 refine⟨h.but.grown hg (fun k e=>.inr (h.new k e)),?_,own_new h.new hat h.but.size⟩
 unfold OAp
 rw[List.length_append,List.flatMap_append,←hn]
 exact ho
end Go.Proofs.YtjfaiaipojfhgaaGreat.pln
end
section
namespace Go.Proofs.YtjfaiaipojfhgaaGreat.pln
open Go.ChangeShapes Go.WideShapes Go.ChangeAt Go.RowKit Go.Deep val ter
def zr (Z:List (List Int)) (c:Nat) (r:Int):Int:=(Z.getD c []).getD r.toNat 0
def skP (s:Sys) (wh:List Int) (R:List (List Pc)) (c pr:Int) (i:Nat):Bool:=!decide (wh.getD i 0=c) || (decide (s.po=1) && decide (((R.getD i []).getD 0 pc0).pr<pr))
def inP (s:Sys) (R:List (List Pc)) (pr:Int) (i:Nat):Bool:=decide (s.pr=2) && (decide (pr<((R.getD i []).getD 0 pc0).pr) && decide (0<(s.ts.getD i ts0).secs.length))
def hiP (s:Sys) (z:Int→Int) (pr r:Int):Bool:=decide (s.pr=2) && decide (pr<z r)
def bkS (s:Sys) (wh:List Int) (z:Int→Int) (pr:Int) (i:Nat) (ss:List (Int × Int × Int)) (m:Int):Nat→Int
 | 0=>m
 | k+1=>if hiP s z pr (ss.getD k (0,0,0)).2.1=true then bkS s wh z pr i ss m k else max (bkS s wh z pr i ss m k) (holdV s wh (i:Int) (k:Int))
def bkM (s:Sys) (wh:List Int) (R:List (List Pc)) (z:Int→Int) (c pr:Int):Nat→Int
 | 0=>0
 | i+1=>if skP s wh R c pr i=true then bkM s wh R z c pr i else bkS s wh z pr i (s.ts.getD i ts0).secs (bkM s wh R z c pr i) (s.ts.getD i ts0).secs.length
def bkE (s:Sys) (wh:List Int) (R:List (List Pc)) (c pr:Int):Nat→Int
 | 0=>2
 | i+1=>if skP s wh R c pr i=true then bkE s wh R c pr i else bkE s wh R c pr i+if inP s R pr i=true then 1 else 0
def blkV (s:Sys) (R:List (List Pc)) (Z:List (List Int)) (c:Nat) (pr:Int):Int:=bkM s (R.map whO) R (zr Z c) (c:Int) pr R.length+bkE s (R.map whO) R (c:Int) pr R.length*s.fi+2*s.sw
theorem hold_bd {s:Sys} (h:right s=true) (wh:List Int) (i k:Int):0≤holdV s wh i k∧holdV s wh i k≤9895604650000:=by
 unfold holdV
 cases e:sec? s i k with
 | none=>dsimp only;omega
 | some x =>
  have h1:=smV_le h wh i.toNat x.2.1
  have h2:=(sec_some e).2
  dsimp only
  omega
theorem bkE_bd (s:Sys) (wh:List Int) (R:List (List Pc)) (c pr:Int):∀ i,2≤bkE s wh R c pr i∧bkE s wh R c pr i≤2+i
 | 0=>by rw[bkE];omega
 | i+1=>by
  have ih:=bkE_bd s wh R c pr i
  rw[bkE]
  split
  ·omega
  ·split <;> omega
theorem bkS_next {s:Sys} {wh:List Int} {z:Int→Int} {pr:Int} {i:Nat} {ss:List (Int × Int × Int)} {m:Int} {k:Nat} {x:Int × Int × Int} (h:ss[k]? = some x):bkS s wh z pr i ss m (k+1)=if hiP s z pr x.2.1=true then bkS s wh z pr i ss m k else max (bkS s wh z pr i ss m k) (holdV s wh (i:Int) (k:Int)):=by
 have e:ss.getD k (0,0,0)=x:=by simp[List.getD,h]
 rw[bkS,e]
end Go.Proofs.YtjfaiaipojfhgaaGreat.pln
end
