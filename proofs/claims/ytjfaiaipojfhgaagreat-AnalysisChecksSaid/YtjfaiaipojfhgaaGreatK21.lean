/- Part 21 of a proof: PlR7 PlA PlR8 PlR9. -/
import Derived.BigQuiet
import Derived.Deep.DeepCutAuto
import Derived.Deep.QuietTactic
import Derived.Test.YtjfaiaipojfhgaaGreatK16
import Derived.Test.YtjfaiaipojfhgaaGreatK20
section
namespace Go.Proofs.YtjfaiaipojfhgaaGreat.pln
open Go.Lib (hid)
open Go.ChangeShapes Go.WideShapes Go.ChangeAt Go.RowKit Go.Deep val ter
def ownV (s:Sys) (L:List (List Pc)) (i:Nat) (x:Pc):Int:=x.bu+s.fi+2*s.sw+(if 0≤(L.map whO).getD i 0 then extraV s (L.map whO) (i:Int) else 0)
theorem right_costs {s:Sys} (h:right s=true):(0≤s.re∧s.re≤50)∧(0≤s.sw∧s.sw≤50)∧0≤s.fi∧s.fi≤50:=by
 obtain⟨h1,_⟩:=right_parts h
 unfold vWhole at h1
 simp only[Bool.and_eq_true,wi_true] at h1
 omega
theorem extra_bd {s:Sys} (h:right s=true) (wh:List Int) (i:Int):0≤extraV s wh i∧extraV s wh i≤35184372088864:=by
 unfold extraV
 cases e:tsk? s i with
 | none=>dsimp only;omega
 | some t =>
  have ht:t ∈ s.ts:=by
   unfold tsk? at e
   split at e
   ·exact List.mem_of_getElem? e
   ·cases e
  have h4:=(right_len h).2.2.2.2 t ht
  have:=exN_le h wh i.toNat t.secs t.secs.length
  dsimp only
  omega
theorem ownV_bd {s:Sys} (h:right s=true) (L:List (List Pc)) (i:Nat) {x:Pc} (hx:0≤x.bu∧x.bu≤1099511627776):0≤ownV s L i x∧ownV s L i x≤70368744177664:=by
 have h1:=right_costs h
 have h2:=extra_bd h (L.map whO) (i:Int)
 unfold ownV
 split <;> omega
theorem whO_in {w:World} {A:Option Addr} {n:Nat} {L:List (List Pc)} (h:RPl w A n L):∀ k,inR ((L.map whO).getD k 0):=by
 intro k
 rw[List.getD_eq_getElem?_getD,List.getElem?_map]
 cases e:L[k]? with
 | none=>show inR 0;unfold inR;omega
 | some l =>
  show inR (whO l)
  obtain⟨b,off,A',c',_,_,_,_,hp⟩:=h.at1 e
  unfold whO
  split
  ·next hc =>
   have hl:l ≠ []:=by intro e;rw[e] at hc;simp at hc
   obtain⟨y,r,rfl⟩:=List.exists_cons_of_ne_nil hl
   exact(hp.fit y (by simp)).1
  ·unfold inR;omega
theorem rwhere_rd {A:Option Addr} {n c:Nat} {L:List (List Pc)} {w:World} (h:RPl w A n L) (hn:n≤1000):Calls Tryz.prog 27 #[.slice A n c] w fun e w'=>∃ B d,e=.returned (.slice B n d)∧But No w w'∧Rd w' B n (L.map whO):=by
 refine(rwhere_any A n c L w h hn).mono fun e w' ⟨v,he,hr⟩=>?_
 have hlen:(L.map whO).length=n:=by rw[List.length_map,h.len]
 obtain⟨B,d,rfl,_⟩:=hr.own.slice
 have hv:=hr.own
 obtain⟨hrl,_⟩:=hv.rl (by rw[hlen];omega)
 rw[hlen] at hrl he
 exact⟨B,d,he,hr.but,⟨hlen,by omega,hrl.at_,whO_in h⟩⟩
set_option maxRecDepth 100000 in
set_option maxHeartbeats 4000000 in
theorem rown_any (s:Sys) (A:Option Addr) (n c:Nat) (A':Option Addr) (N c':Nat) (L:List (List Pc)) (i k:Nat) (l:List Pc) (x:Pc) (w:World) (hs:RSys w A n c s) (hl:RPl w A' N L) (hr:right s=true) (hN:N≤24) (hi:L[i]? = some l) (hk:l[k]? = some x) (hb:0≤x.bu∧x.bu≤1099511627776) :
  Calls Tryz.prog 33 #[sysV s A n c,.slice A' N c',.int .i64 (i:Int),.int .i64 (k:Int)] w fun e w'=>e=.returned (.int .i64 (ownV s L i x))∧But No w w':=by
 have hiN:i<N:=by rw[←hl.len];exact(List.getElem?_eq_some_iff.1 hi).1
 have hkl:k<l.length:=(List.getElem?_eq_some_iff.1 hk).1
 have HCO:=hid (right_costs hr)
 obtain⟨⟨_,_⟩,⟨sw0,sw1⟩,fi0,fi1⟩:=HCO.out
 have HEX:=hid (extra_bd hr (L.map whO) (i:Int))
 have HOV:Hid (ownV s L i x=x.bu+s.fi+2*s.sw+(if 0≤(L.map whO).getD i 0 then extraV s (L.map whO) (i:Int) else 0)):=hid rfl
 generalize ownV s L i x=V at HOV ⊢
 have HB0:Hid (But No w (w.alloc (.cells (boxS s A n c) 24))):=hid ((But.refl No w).alloc _)
 have BS:=hid (Blk.new w (boxS s A n c) 24)
 have BK:Hid (∀ W,But No (w.alloc (.cells (boxS s A n c) 24)) W→S9 W w.heap.size s A n c):=hid (fun W hb=>sys_cells (BS.out.but hb (fun f=>f)))
 have HL:=hid (hl.no HB0.out)
 have CW:Hid (∀ W,But No w W→Calls Tryz.prog 27 #[.slice A' N c'] W fun e w'=>∃ B d,e=.returned (.slice B N d)∧But No W w'∧Rd w' B N (L.map whO)):=hid (fun W hb=>rwhere_rd (hl.no hb) (by omega))
 have CE:Hid (∀ W B d,But No w W→Rd W B N (L.map whO)→Calls Tryz.prog 54 #[sysV s A n c,.slice B N d,.int .i64 (i:Int)] W fun e w'=>e=.returned (.int .i64 (extraV s (L.map whO) (i:Int)))∧But No W w'):=hid (fun W B d hb hz=>dextra_any s A n c B N d (L.map whO) (i:Int) W (hs.no hb) hz)
 generalize extraV s (L.map whO) (i:Int)=E at HEX HOV CE
 obtain⟨b,off,A1,c1,rfl,_,e0,_,hp⟩:=HL.out.at1 hi
 obtain⟨b1,off1,rfl,_,_,p1,_,_,_⟩:=hp.at1 hk
 obtain⟨m1,hm1⟩:∃ m1,l.length=m1:=⟨_,rfl⟩
 rw[hm1] at e0 hkl
 obtain⟨k0,k1,k2,k3,k4,k5,k6,k7,k8⟩:=BK.out _ (But.refl No _)
 have hi0:(0:Int)≤(i:Int):=Int.natCast_nonneg i
 have hk0:(0:Int)≤(k:Int):=Int.natCast_nonneg k
 have hi1:(i:Int)<(N:Int):=by omega
 have hk1:(k:Int)<(m1:Int):=by omega
 obtain⟨P,hP⟩:∃ P,x.bu+s.fi+2*s.sw=P:=⟨_,rfl⟩
 have HP:=hid hP
 rw[hP] at HOV
 have hPb:0≤P∧P≤1099511628000:=by omega
 have w1:IntKind.i64.wrap (x.bu+s.fi)=x.bu+s.fi:=IntWalk.i64_in _ (by omega)
 have w2:IntKind.i64.wrap (2*s.sw)=2*s.sw:=IntWalk.i64_in _ (by omega)
 have w3:IntKind.i64.wrap (x.bu+s.fi+2*s.sw)=P:=by rw[IntWalk.i64_in _ (by omega)];exact hP
 clear hs hl hr hi hk hp hm1 hP HL
 obtain⟨co,bu,de,pr,ti⟩:=x
 dsimp only at p1 w1 w2 w3 hb
 obtain⟨sco,spo,spr,sre,ssw,sfi,sla,srs,sts⟩:=s
 dsimp only at *
 unfold sysV at CE ⊢
 unfold boxS at *
 dsimp only at *
 go_enter Tryz.func33,Tryz.ntmps33
 go_upto_region 1 with fail
 go_quiet (fail)
 have HBQ:Hid (But No (w.alloc (.cells #[.int .i64 sco,.int .i64 spo,.int .i64 spr,.int .i64 sre,.int .i64 ssw,.int .i64 sfi,.int .i64 sla,.int .i64 srs,.slice A n c] 24)) ((w.alloc (.cells #[.int .i64 sco,.int .i64 spo,.int .i64 spr,.int .i64 sre,.int .i64 ssw,.int .i64 sfi,.int .i64 sla,.int .i64 srs,.slice A n c] 24)).drewN nq)):=hid ((But.refl No _).drewN _)
 generalize (w.alloc (.cells #[.int .i64 sco,.int .i64 spo,.int .i64 spr,.int .i64 sre,.int .i64 ssw,.int .i64 sfi,.int .i64 sla,.int .i64 srs,.slice A n c] 24)).drewN nq=wq at HBQ ⊢
 clear e0 p1 k0 k1 k2 k3 k4 k5 k6 k7 k8 w1 w2 w3
 go_upto_region 3 with(go_at_call 27;(with_reducible refine(CW.out _ (HB0.out.trans HBQ.out)).mono ?_);rintro e w1 ⟨B,d,rfl,hb1,hrd⟩;have HBK:=hid (HBQ.out.trans hb1);have HRD:=hid hrd;have HB1:=hid (HB0.out.trans HBK.out);clear hb1 hrd)
 obtain⟨k0,k1,k2,k3,k4,k5,k6,k7,k8⟩:=BK.out _ HBK.out
 obtain⟨wb,wo,rfl,_,hwc⟩:=HRD.out.at_ (by omega)
 have hw:=hwc i hiN
 obtain⟨z,hz⟩:∃ z,(L.map whO).getD i 0=z:=⟨_,rfl⟩
 rw[hz] at hw HOV
 have CE2:=hid (CE.out w1 _ d HB1.out HRD.out)
 clear hwc hz CE
 by_cases h0:0≤z
 ·rw[if_pos h0] at HOV
  have b1:decide (0≤z)=true:=by simp[h0]
  have hPE:0≤P+E∧P+E≤1099511627776000:=by have:=HEX.out;omega
  go_wp2_with (go_at_call 54;(with_reducible refine CE2.out.mono ?_);rintro e w2 ⟨rfl,hb2⟩;have HB2:=hid (HB1.out.trans hb2);clear hb2)
  go_ret
  exact⟨ret1 HOV.out.symm,HB2.out⟩
 ·rw[if_neg h0] at HOV
  have b1:decide (0≤z)=false:=by simp;omega
  go_wp2_with fail
  go_ret
  exact⟨ret1 (by rw[HOV.out];omega),HB1.out⟩
end Go.Proofs.YtjfaiaipojfhgaaGreat.pln
end
section
namespace Go.Proofs.YtjfaiaipojfhgaaGreat.pln
open Go.ChangeShapes Go.WideShapes Go.ChangeAt Go.RowKit Go.Deep val ter
structure Ap where
 p:Pc
 i:Nat
 k:Nat
def apV (x:Ap):Value:=.agg #[.int .i64 x.p.co,.int .i64 x.p.bu,.int .i64 x.p.de,.int .i64 x.p.pr,.bool x.p.ti,.int .i64 (x.i:Int),.int .i64 (x.k:Int)]
def apC (x:Ap):List Value:=[.int .i64 x.p.co,.int .i64 x.p.bu,.int .i64 x.p.de,.int .i64 x.p.pr,.bool x.p.ti,.int .i64 (x.i:Int),.int .i64 (x.k:Int)]
def apL (c:Int) (i:Nat) (l:List Pc):Nat→List Ap
 | 0=>[]
 | k+1=>apL c i l k ++ if (l.getD k pc0).co=c then [⟨l.getD k pc0,i,k⟩] else []
def apN (c:Int) (L:List (List Pc)):Nat→List Ap
 | 0=>[]
 | i+1=>apN c L i ++ apL c i (L.getD i []) (L.getD i []).length
def apS (c:Int) (L:List (List Pc)):List Ap:=apN c L L.length
theorem apL_next {c:Int} {i:Nat} {l:List Pc} {k:Nat} {x:Pc} (h:l[k]? = some x):apL c i l (k+1)=apL c i l k ++ if x.co=c then [⟨x,i,k⟩] else []:=by rw[apL,getD_some h]
theorem apN_next {c:Int} {L:List (List Pc)} {i:Nat} {l:List Pc} (h:L[i]? = some l):apN c L (i+1)=apN c L i ++ apL c i l l.length:=by rw[apN,getL h]
theorem apL_len (c:Int) (i:Nat) (l:List Pc):∀ k,(apL c i l k).length≤k
 | 0=>by rw[apL];simp
 | k+1=>by
  have:=apL_len c i l k
  rw[apL,List.length_append]
  split <;> simp <;> omega
theorem apN_len {c:Int} {L:List (List Pc)} {B:Nat} (h:∀ l ∈ L,l.length≤B):∀ i,i≤L.length→(apN c L i).length≤i*B
 | 0,_=>by rw[apN];simp
 | i+1,hi=>by
  have ih:=apN_len (c:=c) h i (by omega)
  have hl:L[i]? = some L[i]:=List.getElem?_eq_getElem (by omega)
  have h1:=apL_len c i L[i] L[i].length
  have h2:=h L[i] (List.getElem_mem _)
  rw[apN_next hl,List.length_append,Nat.add_mul]
  omega
theorem apL_mem {c:Int} {i:Nat} {l:List Pc} {y:Ap}:∀ {k:Nat},k≤l.length→y ∈ apL c i l k→y.i=i∧l[y.k]? = some y.p∧y.p.co=c∧y.k<k
 | 0,_,h=>by simp[apL] at h
 | k+1,hk,h=>by
  have hx:l[k]? = some l[k]:=List.getElem?_eq_getElem (by omega)
  rw[apL_next hx,List.mem_append] at h
  rcases h with h | h
  ·obtain⟨h1,h2,h3,h4⟩:=apL_mem (by omega) h
   exact⟨h1,h2,h3,by omega⟩
  ·split at h
   ·next hc =>
    rw[List.mem_singleton] at h
    subst h
    exact⟨rfl,hx,hc,by show k<k+1;omega⟩
   ·simp at h
theorem apN_mem {c:Int} {L:List (List Pc)} {y:Ap}:∀ {i:Nat},i≤L.length→y ∈ apN c L i→∃ l,L[y.i]? = some l∧l[y.k]? = some y.p∧y.p.co=c∧y.i<i
 | 0,_,h=>by simp[apN] at h
 | i+1,hi,h=>by
  have hl:L[i]? = some L[i]:=List.getElem?_eq_getElem (by omega)
  rw[apN_next hl,List.mem_append] at h
  rcases h with h | h
  ·obtain⟨l,h1,h2,h3,h4⟩:=apN_mem (by omega) h
   exact⟨l,h1,h2,h3,by omega⟩
  ·obtain⟨h1,h2,h3,_⟩:=apL_mem (Nat.le_refl _) h
   exact⟨L[i],by rw[h1];exact hl,h2,h3,by omega⟩
theorem apS_mem {c:Int} {L:List (List Pc)} {y:Ap} (h:y ∈ apS c L):∃ l,L[y.i]? = some l∧l[y.k]? = some y.p∧y.p.co=c:=by
 obtain⟨l,h1,h2,h3,_⟩:=apN_mem (Nat.le_refl _) h
 exact⟨l,h1,h2,h3⟩
structure RAp (w:World) (A:Option Addr) (n:Nat) (l:List Ap):Prop where
 len:l.length=n
 max:n≤9223372036854775807
 at_:0<n→∃ b off,A=some ⟨b,off,none⟩∧b<w.heap.size∧∀ k x,l[k]? = some x→w.cell? ⟨b,off+k*7,none⟩=some (.int .i64 x.p.co)∧w.cell? ⟨b,off+k*7+1,none⟩=some (.int .i64 x.p.bu)∧w.cell? ⟨b,off+k*7+2,none⟩=some (.int .i64 x.p.de)∧w.cell? ⟨b,off+k*7+3,none⟩=some (.int .i64 x.p.pr)∧w.cell? ⟨b,off+k*7+4,none⟩=some (.bool x.p.ti)∧w.cell? ⟨b,off+k*7+5,none⟩=some (.int .i64 (x.i:Int))∧w.cell? ⟨b,off+k*7+6,none⟩=some (.int .i64 (x.k:Int))
theorem RAp.no {w w':World} {A:Option Addr} {n:Nat} {l:List Ap} (h:RAp w A n l) (hb:But No w w'):RAp w' A n l :=
 ⟨h.len,h.max,fun hn=>by
  obtain⟨b,off,e,hl,hc⟩:=h.at_ hn
  refine⟨b,off,e,Nat.lt_of_lt_of_le hl hb.size,fun k x hx=>?_⟩
  obtain⟨h0,h1,h2,h3,h4,h5,h6⟩:=hc k x hx
  exact⟨cell_keep h0 hb,cell_keep h1 hb,cell_keep h2 hb,cell_keep h3 hb,cell_keep h4 hb,cell_keep h5 hb,cell_keep h6 hb⟩⟩
theorem RAp.at1 {w:World} {A:Option Addr} {n:Nat} {l:List Ap} (h:RAp w A n l) {k:Nat} {x:Ap} (hx:l[k]? = some x) :
  ∃ b off,A=some ⟨b,off,none⟩∧b<w.heap.size∧w.cell? ⟨b,off+k*7,none⟩=some (.int .i64 x.p.co)∧w.cell? ⟨b,off+k*7+1,none⟩=some (.int .i64 x.p.bu)∧w.cell? ⟨b,off+k*7+2,none⟩=some (.int .i64 x.p.de)∧w.cell? ⟨b,off+k*7+3,none⟩=some (.int .i64 x.p.pr)∧w.cell? ⟨b,off+k*7+4,none⟩=some (.bool x.p.ti)∧w.cell? ⟨b,off+k*7+5,none⟩=some (.int .i64 (x.i:Int))∧w.cell? ⟨b,off+k*7+6,none⟩=some (.int .i64 (x.k:Int)):=by
 have hk:k<l.length:=(List.getElem?_eq_some_iff.1 hx).1
 obtain⟨b,off,e,hl,hc⟩:=h.at_ (by rw[←h.len];omega)
 exact⟨b,off,e,hl,hc k x hx⟩
theorem RAp.butS {w w':World} {A:Option Addr} {n:Nat} {l:List Ap} {S:Nat→Prop} (h:RAp w A n l) (hb:But S w w') (hs:∀ b off,A=some ⟨b,off,none⟩→¬S b):RAp w' A n l :=
 ⟨h.len,h.max,fun hn=>by
  obtain⟨b,off,e,hl,hc⟩:=h.at_ hn
  have h9:=hs b off e
  refine⟨b,off,e,Nat.lt_of_lt_of_le hl hb.size,fun k x hx=>?_⟩
  obtain⟨h0,h1,h2,h3,h4,h5,h6⟩:=hc k x hx
  exact⟨(hb.cell hl h9).trans h0,(hb.cell hl h9).trans h1,(hb.cell hl h9).trans h2,(hb.cell hl h9).trans h3,(hb.cell hl h9).trans h4,(hb.cell hl h9).trans h5,(hb.cell hl h9).trans h6⟩⟩
def OAp (w:World) (v:Value) (l:List Ap):Prop:=w.ownsRow 0 86 7 v l.length (l.flatMap apC)
theorem OAp.nil (w:World):OAp w (.slice none 0 0) []:=World.ownsRow_nil _ _ _ _
theorem OAp.but {w w':World} {v:Value} {l:List Ap} {S:Nat→Prop} (h:OAp w v l) (hb:But S w w') (hs:∀ k,v.ownBlock=some k→¬S k):OAp w' v l:=owns_but h hb hs
theorem apC_at {l:List Ap} {k:Nat} {x:Ap} (h:l[k]? = some x):(l.flatMap apC)[k*7]? = some (.int .i64 x.p.co)∧(l.flatMap apC)[k*7+1]? = some (.int .i64 x.p.bu)∧(l.flatMap apC)[k*7+2]? = some (.int .i64 x.p.de)∧(l.flatMap apC)[k*7+3]? = some (.int .i64 x.p.pr)∧(l.flatMap apC)[k*7+4]? = some (.bool x.p.ti)∧(l.flatMap apC)[k*7+5]? = some (.int .i64 (x.i:Int))∧(l.flatMap apC)[k*7+6]? = some (.int .i64 (x.k:Int)):=by
 induction l generalizing k with
 | nil=>simp at h
 | cons y l ih =>
  rw[List.flatMap_cons]
  cases k with
  | zero =>
   rw[List.getElem?_cons_zero] at h
   cases h
   exact⟨rfl,rfl,rfl,rfl,rfl,rfl,rfl⟩
  | succ k =>
   rw[List.getElem?_cons_succ] at h
   obtain⟨h0,h1,h2,h3,h4,h5,h6⟩:=ih h
   have e:(apC y).length=7:=rfl
   refine⟨?_,?_,?_,?_,?_,?_,?_⟩
   ·rw[List.getElem?_append_right (by rw[e];omega),e,show (k+1)*7-7=k*7 by omega];exact h0
   ·rw[List.getElem?_append_right (by rw[e];omega),e,show (k+1)*7+1-7=k*7+1 by omega];exact h1
   ·rw[List.getElem?_append_right (by rw[e];omega),e,show (k+1)*7+2-7=k*7+2 by omega];exact h2
   ·rw[List.getElem?_append_right (by rw[e];omega),e,show (k+1)*7+3-7=k*7+3 by omega];exact h3
   ·rw[List.getElem?_append_right (by rw[e];omega),e,show (k+1)*7+4-7=k*7+4 by omega];exact h4
   ·rw[List.getElem?_append_right (by rw[e];omega),e,show (k+1)*7+5-7=k*7+5 by omega];exact h5
   ·rw[List.getElem?_append_right (by rw[e];omega),e,show (k+1)*7+6-7=k*7+6 by omega];exact h6
theorem OAp.rd {w:World} {v:Value} {l:List Ap} (h:OAp w v l) (hm:l.length≤9223372036854775807):∃ A c,v=.slice A l.length c∧l.length≤c∧(∀ b off,A=some ⟨b,off,none⟩→(Value.slice A l.length c).ownBlock=some b)∧RAp w A l.length l:=by
 obtain⟨h1,h2⟩:=h
 rcases h2 with⟨h2,e⟩ | ⟨g,cap,cur,hv,_,hh,hc,hcap,hs,ht⟩
 ·exact⟨none,0,by rw[e];exact h2,by omega,(fun b off h=>by cases h),rfl,hm,fun h=>absurd h (by omega)⟩
 ·refine⟨_,_,hv,hc,(fun b off e=>by cases e;rfl),rfl,hm,fun hn=>⟨g,0,rfl,Blk.lt hh,fun k x hx=>?_⟩⟩
  have hk:k<l.length:=(List.getElem?_eq_some_iff.1 hx).1
  obtain⟨a0,a1,a2,a3,a4,a5,a6⟩:=apC_at hx
  have rdc:∀ j u,j<l.length*7→(l.flatMap apC)[j]? = some u→w.cell? ⟨g,0+j,none⟩=some u:=fun j u hj hu=>by
   rw[Nat.zero_add]
   refine Blk.cell hh ?_
   rw[←ht,List.getElem?_take,if_pos hj] at hu
   simpa using hu
  refine⟨rdc _ _ (by omega) a0,?_,?_,?_,?_,?_,?_⟩
  ·have:=rdc (k*7+1) _ (by omega) a1;rw[←Nat.add_assoc] at this;exact this
  ·have:=rdc (k*7+2) _ (by omega) a2;rw[←Nat.add_assoc] at this;exact this
  ·have:=rdc (k*7+3) _ (by omega) a3;rw[←Nat.add_assoc] at this;exact this
  ·have:=rdc (k*7+4) _ (by omega) a4;rw[←Nat.add_assoc] at this;exact this
  ·have:=rdc (k*7+5) _ (by omega) a5;rw[←Nat.add_assoc] at this;exact this
  ·have:=rdc (k*7+6) _ (by omega) a6;rw[←Nat.add_assoc] at this;exact this
structure Ra (w wr:World) (v:Value) (l:List Ap):Prop where
 but:But No w wr
 own:OAp wr v l
 new:∀ k,v.ownBlock=some k→w.heap.size≤k
theorem Ra.no {w wr w2:World} {v:Value} {l:List Ap} (h:Ra w wr v l) (hb:But No wr w2):Ra w w2 v l:=⟨h.but.trans hb,h.own.but hb (fun _ _ f=>f),h.new⟩
theorem Ra.start (w:World):Ra w w (.slice none 0 0) []:=⟨But.refl No w,OAp.nil w,own_none⟩
theorem Ra.app {w wr w2:World} {v:Value} {l k:List Ap} {A:Option Addr} {c n:Nat} (h:Ra w wr v l) (hn:n=l.length+k.length) (ho:w2.ownsRow 0 86 7 (.slice A n c) n (l.flatMap apC ++ k.flatMap apC)) (hg:wr.grownBy w2 v.ownBlock)
  (hat:(Value.slice A n c).ownBlock=v.ownBlock∨(Value.slice A n c).ownBlock=some wr.heap.size):Ra w w2 (.slice A n c) (l ++ k):=by
 refine⟨h.but.grown hg (fun k e=>.inr (h.new k e)),?_,own_new h.new hat h.but.size⟩
 unfold OAp
 rw[List.length_append,List.flatMap_append,←hn]
 exact ho
theorem infoA : (Tryz.prog.info? 86).map (fun i=>(i.zero,i.size,i.bytes))=some (some (.agg #[.int .i64 0,.int .i64 0,.int .i64 0,.int .i64 0,.bool false,.int .i64 0,.int .i64 0]),7,56):=by kernel_rfl
theorem ap_one_reads (w:World) (x:Ap) (t:TypeId):Reads (w.alloc (.cells #[.int .i64 x.p.co,.int .i64 x.p.bu,.int .i64 x.p.de,.int .i64 x.p.pr,.bool x.p.ti,.int .i64 (x.i:Int),.int .i64 (x.k:Int)] t)) (w.heap.size+1) 7 (some ⟨w.heap.size,0,none⟩) 1 (apC x) :=
 ⟨rfl,fun _=>⟨⟨w.heap.size,0,none⟩,rfl,by simp,World.news_of_block (cs:=#[.int .i64 x.p.co,.int .i64 x.p.bu,.int .i64 x.p.de,.int .i64 x.p.pr,.bool x.p.ti,.int .i64 (x.i:Int),.int .i64 (x.k:Int)]) (t:=t) (fr:=(0,0)) (Blk.new w _ _)⟩⟩
theorem ap_one_cell (x:Ap):∀ u ∈ apC x,u.oneCell'=true:=by simp[apC,Value.oneCell']
end Go.Proofs.YtjfaiaipojfhgaaGreat.pln
end
section
namespace Go.Proofs.YtjfaiaipojfhgaaGreat.pln
open Go.Lib (hid)
open Go.ChangeShapes Go.WideShapes Go.ChangeAt Go.RowKit Go.Deep val ter
set_option maxRecDepth 100000 in
set_option maxHeartbeats 4000000 in
theorem rpieces_any (A:Option Addr) (n c:Nat) (L:List (List Pc)) (co:Int) (w:World) (h:RPl w A n L) (hn:n≤24) (hB:∀ l ∈ L,l.length≤8):Calls Tryz.prog 37 #[.slice A n c,.int .i64 co] w fun e w'=>∃ v,e=.returned v∧Ra w w' v (apS co L):=by
 have HN:=hid h.len
 have HL:=hid h
 have HBD:=hid hB
 have HLN:Hid (∀ q,q≤n→(apN co L q).length≤q*8):=hid (fun q hq=>apN_len hB q (by rw[HN.out];exact hq))
 obtain⟨ia,hi0,hz0,hz1,hz2⟩:=info_parts infoA
 have IA:Hid (Tryz.prog.info? 86=some ia∧ia.zero=some (.agg #[.int .i64 0,.int .i64 0,.int .i64 0,.int .i64 0,.bool false,.int .i64 0,.int .i64 0])∧ia.size=7∧ia.bytes=56):=⟨hi0,hz0,hz1,hz2⟩
 clear h hB hi0 hz0 hz1 hz2
 go_enter Tryz.func37,Tryz.ntmps37
 go_wp2_with fail
 go_loopw [5,6] (fun u i wr=>∃ (v:Value) (q:Nat),u=v∧i=.int .i64 (q:Int)∧q≤n∧Hid (Ra w wr v (apN co L q))) (fun _ i _=>n-(intOf i).toNat)
 case atStart=>exact⟨_,0,rfl,rfl,by omega,Ra.start w⟩
 case round =>
  obtain⟨v,q,hu,rfl,hq,HR⟩:=hrel
  have h':=hu.symm
  subst h'
  have hq0:(0:Int)≤(q:Int):=Int.natCast_nonneg q
  by_cases hqn:q<n
  ·have hqn2:(q:Int)<(n:Int):=by omega
   have b3:decide ((q:Int)<(n:Int))=true:=by simp;omega
   obtain⟨l,hl⟩:∃ l,L[q]? = some l:=⟨_,List.getElem?_eq_getElem (by rw[HN.out];exact hqn)⟩
   have hl8:=HBD.out l (List.mem_of_getElem? hl)
   have HAN:=hid (apN_next (c:=co) hl)
   obtain⟨b,off,A1,c1,rfl,_,e0,_,hp⟩:=HL.out.at1 hl
   have HP:=hid hp
   have HE0:=hid e0
   obtain⟨m,hm⟩:∃ m,l.length=m:=⟨_,rfl⟩
   have HM:=hid hm
   rw[hm] at HP HE0 hl8 HAN
   have hq8:=HLN.out q (by omega)
   clear hl hp hm e0
   go_wp2_with fail
   go_loopw [5,7] (fun u i w2=>∃ (v:Value) (k:Nat),u=v∧i=.int .i64 (k:Int)∧k≤m∧Hid (Ra w w2 v (apN co L q ++ apL co q l k))) (fun _ i _=>m-(intOf i).toNat)
   case atStart=>exact⟨_,0,rfl,rfl,by omega,by rw[apL,List.append_nil];exact HR.out⟩
   case round =>
    obtain⟨v,k,hu,rfl,hk,HR⟩:=hrel
    have HBW:=hid HR.out.but
    have h':=hu.symm
    subst h'
    have hk0:(0:Int)≤(k:Int):=Int.natCast_nonneg k
    have e0:=cell_keep HE0.out HBW.out
    by_cases hkm:k<m
    ·have hkm2:(k:Int)<(m:Int):=by omega
     have b4:decide ((k:Int)<(m:Int))=true:=by simp;omega
     obtain⟨x,hx⟩:∃ x,l[k]? = some x:=⟨_,List.getElem?_eq_getElem (by rw[HM.out];exact hkm)⟩
     obtain⟨b1,off1,rfl,_,p0,p1,p2,p3,p4⟩:=(HP.out.no HBW.out).at1 hx
     have HAX:=hid (apL_next (c:=co) (i:=q) hx)
     have hlk:(apL co q l k).length≤k:=apL_len co q l k
     clear hx
     obtain⟨x0,x1,x2,x3,x4⟩:=x
     dsimp only at p0 p1 p2 p3 p4 HAX
     by_cases hc:x0=co
     ·have b5:decide (x0=co)=true:=by simp[hc]
      have b5':(x0 == co)=true:=by simp[hc]
      rw[if_pos hc] at HAX
      have HC:=hid hc
      obtain⟨z,hz⟩:∃ z,(apN co L q ++ apL co q l k).length=z:=⟨_,rfl⟩
      have HZ:=hid hz
      have hz2:z≤300:=by rw[←hz,List.length_append];omega
      have HRa:=hid (HR.out.no ((But.refl No wr).alloc (.cells #[.int .i64 x0,.int .i64 x1,.int .i64 x2,.int .i64 x3,.bool x4,.int .i64 (q:Int),.int .i64 (k:Int)] 86)))
      clear hc hz
      go_wp2_with (at_builtin;refine wpList_append_sh _ rfl _ _ 82 rfl 86 ia _ 7 56 Tryz.underlying82 IA.out.1 IA.out.2.1 IA.out.2.2.1 IA.out.2.2.2 rfl (by omega) v z ((apN co L q ++ apL co q l k).flatMap apC) rfl (by have h9:=HRa.out.own;unfold OAp at h9;rw[HZ.out] at h9;exact h9) (wr.heap.size+1) (some ⟨wr.heap.size,0,none⟩) 1 1 (apC ⟨⟨x0,x1,x2,x3,x4⟩,q,k⟩) (by simp[Act.eval]) (ap_one_reads wr ⟨⟨x0,x1,x2,x3,x4⟩,q,k⟩ _) (ap_one_cell ⟨⟨x0,x1,x2,x3,x4⟩,q,k⟩) (by unfold maxLen;omega) (by omega) ?_;intro A5 c5 w5 hown5 hgrow5 hat5;have HR5:=hid (HRa.out.app (k:=[⟨⟨x0,x1,x2,x3,x4⟩,q,k⟩]) (by rw[HZ.out];rfl) hown5 hgrow5 hat5);clear hown5 hgrow5 hat5)
      go_roundw
      case rel=>exact⟨_,k+1,rfl,by go_num,by omega,by rw[HAX.out,←List.append_assoc];exact HR5.out⟩
      case measure=>simp[intOf];omega
     ·have b5:decide (x0=co)=false:=by simp[hc]
      have b5':(x0 == co)=false:=by simp[hc]
      rw[if_neg hc] at HAX
      go_wp2_with fail
      go_roundw
      case rel=>exact⟨_,k+1,rfl,by go_num,by omega,by rw[HAX.out,List.append_nil];exact HR.out⟩
      case measure=>simp[intOf];omega
    ·have hkm2:k=m:=by omega
     have b4:decide ((k:Int)<(m:Int))=false:=by simp;omega
     have HRE:Hid (Ra w wr v (apN co L (q+1))):=hid (by rw[HAN.out,←hkm2];exact HR.out)
     clear hkm2
     go_wp2_with fail
     go_roundw
     case rel=>exact⟨_,q+1,rfl,by go_num,by omega,HRE.out⟩
     case measure=>simp[intOf];omega
  ·have hqe:q=n:=by omega
   have b3:decide ((q:Int)<(n:Int))=false:=by simp;omega
   have HRE:Hid (Ra w wr v (apS co L)):=hid (by unfold apS;rw[HN.out,←hqe];exact HR.out)
   clear hqe
   go_wp2_with fail
   go_ret
   exact⟨_,rfl,HRE.out⟩
end Go.Proofs.YtjfaiaipojfhgaaGreat.pln
end
section
namespace Go.Proofs.YtjfaiaipojfhgaaGreat.pln
open Go.Lib (hid)
open Go.ChangeShapes Go.WideShapes Go.ChangeAt Go.RowKit Go.Deep val ter
def zr (Z:List (List Int)) (c:Nat) (r:Int):Int:=(Z.getD c []).getD r.toNat 0
def skP (s:Sys) (wh:List Int) (R:List (List Pc)) (c pr:Int) (i:Nat):Bool:=!decide (wh.getD i 0=c) || (decide (s.po=1) && decide (((R.getD i []).getD 0 pc0).pr<pr))
def inP (s:Sys) (R:List (List Pc)) (pr:Int) (i:Nat):Bool:=decide (s.pr=2) && (decide (pr<((R.getD i []).getD 0 pc0).pr) && decide (0<(s.ts.getD i ts0).secs.length))
def hiP (s:Sys) (z:Int→Int) (pr r:Int):Bool:=decide (s.pr=2) && decide (pr<z r)
def bkS (s:Sys) (wh:List Int) (z:Int→Int) (pr:Int) (i:Nat) (ss:List (Int × Int × Int)) (m:Int):Nat→Int
 | 0=>m
 | k+1=>if hiP s z pr (ss.getD k (0,0,0)).2.1=true then bkS s wh z pr i ss m k else max (bkS s wh z pr i ss m k) (holdV s wh (i:Int) (k:Int))
def bkM (s:Sys) (wh:List Int) (R:List (List Pc)) (z:Int→Int) (c pr:Int):Nat→Int
 | 0=>0
 | i+1=>if skP s wh R c pr i=true then bkM s wh R z c pr i else bkS s wh z pr i (s.ts.getD i ts0).secs (bkM s wh R z c pr i) (s.ts.getD i ts0).secs.length
def bkE (s:Sys) (wh:List Int) (R:List (List Pc)) (c pr:Int):Nat→Int
 | 0=>2
 | i+1=>if skP s wh R c pr i=true then bkE s wh R c pr i else bkE s wh R c pr i+if inP s R pr i=true then 1 else 0
def blkV (s:Sys) (R:List (List Pc)) (Z:List (List Int)) (c:Nat) (pr:Int):Int:=bkM s (R.map whO) R (zr Z c) (c:Int) pr R.length+bkE s (R.map whO) R (c:Int) pr R.length*s.fi+2*s.sw
theorem hold_bd {s:Sys} (h:right s=true) (wh:List Int) (i k:Int):0≤holdV s wh i k∧holdV s wh i k≤9895604650000:=by
 unfold holdV
 cases e:sec? s i k with
 | none=>dsimp only;omega
 | some x =>
  have h1:=smV_le h wh i.toNat x.2.1
  have h2:=(sec_some e).2
  dsimp only
  omega
theorem bkS_bd {s:Sys} (h:right s=true) (wh:List Int) (z:Int→Int) (pr:Int) (i:Nat) (ss:List (Int × Int × Int)) {m:Int} (hm:0≤m∧m≤9895604650000):∀ k,0≤bkS s wh z pr i ss m k∧bkS s wh z pr i ss m k≤9895604650000
 | 0=>hm
 | k+1=>by
  have ih:=bkS_bd h wh z pr i ss hm k
  have h1:=hold_bd h wh (i:Int) (k:Int)
  rw[bkS]
  split <;> omega
theorem bkM_bd {s:Sys} (h:right s=true) (wh:List Int) (R:List (List Pc)) (z:Int→Int) (c pr:Int):∀ i,0≤bkM s wh R z c pr i∧bkM s wh R z c pr i≤9895604650000
 | 0=>by rw[bkM];omega
 | i+1=>by
  have ih:=bkM_bd h wh R z c pr i
  rw[bkM]
  split
  ·exact ih
  ·exact bkS_bd h wh z pr i _ ih _
theorem bkE_bd (s:Sys) (wh:List Int) (R:List (List Pc)) (c pr:Int):∀ i,2≤bkE s wh R c pr i∧bkE s wh R c pr i≤2+i
 | 0=>by rw[bkE];omega
 | i+1=>by
  have ih:=bkE_bd s wh R c pr i
  rw[bkE]
  split
  ·omega
  ·split <;> omega
theorem blkV_bd {s:Sys} (h:right s=true) {R:List (List Pc)} (hR:R.length≤24) (Z:List (List Int)) (c:Nat) (pr:Int):0≤blkV s R Z c pr∧blkV s R Z c pr≤9895604660000:=by
 have h1:=bkM_bd h (R.map whO) R (zr Z c) (c:Int) pr R.length
 have h2:=bkE_bd s (R.map whO) R (c:Int) pr R.length
 obtain⟨_,⟨s0,s1⟩,f0,f1⟩:=right_costs h
 have h3:0≤bkE s (R.map whO) R (c:Int) pr R.length*s.fi:=Int.mul_nonneg (by omega) f0
 have h4:bkE s (R.map whO) R (c:Int) pr R.length*s.fi≤26*50:=Int.mul_le_mul (by omega) f1 f0 (by omega)
 unfold blkV
 omega
theorem bkS_next {s:Sys} {wh:List Int} {z:Int→Int} {pr:Int} {i:Nat} {ss:List (Int × Int × Int)} {m:Int} {k:Nat} {x:Int × Int × Int} (h:ss[k]? = some x):bkS s wh z pr i ss m (k+1)=if hiP s z pr x.2.1=true then bkS s wh z pr i ss m k else max (bkS s wh z pr i ss m k) (holdV s wh (i:Int) (k:Int)):=by
 have e:ss.getD k (0,0,0)=x:=by simp[List.getD,h]
 rw[bkS,e]
set_option maxRecDepth 100000 in
set_option maxHeartbeats 8000000 in
theorem rblock_any (s:Sys) (A:Option Addr) (n c:Nat) (A':Option Addr) (N c':Nat) (R:List (List Pc)) (AZ:Option Addr) (NZ cZ:Nat) (Z:List (List Int)) (co:Nat) (pr:Int) (w:World) (hs:RSys w A n c s) (hl:RPl w A' N R) (hz:RNs w AZ NZ Z) (hr:right s=true) (hN:N=s.ts.length) (row:List Int) (hZ:Z[co]? = some row) (hrow:row.length=s.rs.toNat) :
  Calls Tryz.prog 59 #[sysV s A n c,.slice A' N c',.slice AZ NZ cZ,.int .i64 (co:Int),.int .i64 pr] w fun e w'=>e=.returned (.int .i64 (blkV s R Z co pr))∧But No w w':=by
 have hbd:=blkV_bd hr (R:=R) (by rw[hl.len,hN];exact(right_len hr).2.2.2.1) Z co pr
 have HRN:=hid hl.len
 have HV:Hid (blkV s R Z co pr=bkM s (R.map whO) R (zr Z co) (co:Int) pr N+bkE s (R.map whO) R (co:Int) pr N*s.fi+2*s.sw):=hid (by unfold blkV;rw[hl.len])
 have hcosts:=right_costs hr
 obtain⟨_,hrs8,_,hN24,hsl4⟩:=right_len hr
 have HR:=hid hr
 have HSL:=hid hsl4
 have HBM:=hid (fun i=>bkM_bd hr (R.map whO) R (zr Z co) (co:Int) pr i)
 have HBE:=hid (fun i=>bkE_bd s (R.map whO) R (co:Int) pr i)
 have HTN:Hid (s.ts.length=N):=hid hN.symm
 have hb0:But No w (w.alloc (.cells (boxS s A n c) 24)):=(But.refl No w).alloc _
 have HB0:=hid hb0
 have BS:=hid (Blk.new w (boxS s A n c) 24)
 have BK:Hid (∀ W,But No (w.alloc (.cells (boxS s A n c) 24)) W→S9 W w.heap.size s A n c):=hid (fun W hb=>sys_cells (BS.out.but hb (fun f=>f)))
 have CW:Hid (∀ W,But No w W→Calls Tryz.prog 27 #[.slice A' N c'] W fun e w'=>∃ B d,e=.returned (.slice B N d)∧But No W w'∧Rd w' B N (R.map whO)):=hid (fun W hb=>rwhere_rd (hl.no hb) (by omega))
 have CH:Hid (∀ W B d i k,But No w W→Rd W B N (R.map whO)→Calls Tryz.prog 82 #[sysV s A n c,.slice B N d,.int .i64 i,.int .i64 k] W fun e w'=>e=.returned (.int .i64 (holdV s (R.map whO) i k))∧But No W w'):=hid (fun W B d i k hb hz=>dhold_any s A n c B N d (R.map whO) i k W (hs.no hb) hz)
 have HSX:=hid hs
 have HL:=hid hl
 have HZ:=hid hz
 have HZR:=hid hZ
 have HRW:=hid hrow
 clear hs hl hz hr hN24 hsl4 hb0 hZ hrow hN
 have hN24:N≤24:=by have:=(right_len HR.out).2.2.2.1;have:=HTN.out;omega
 unfold sysV at CH ⊢
 unfold boxS at BS BK HB0
 generalize blkV s R Z co pr=V at HV hbd ⊢
 go_enter Tryz.func59,Tryz.ntmps59
 go_upto_region 5 with(go_at_call 27;(with_reducible refine(CW.out _ HB0.out).mono ?_);rintro e w1 ⟨B,d,rfl,hb1,hrd⟩;have HBK:=hid hb1;have HRD:=hid hrd;have HB1:=hid (HB0.out.trans hb1);clear hb1 hrd)
 have BK1:Hid (∀ W,But No w1 W→S9 W w.heap.size s A n c):=hid (fun W hb=>BK.out W (HBK.out.trans hb))
 have HRD1:=hid (fun W (hb:But No w1 W)=>HRD.out.no hb)
 have CH1:Hid (∀ W i k,But No w1 W→Calls Tryz.prog 82 #[.agg #[.int .i64 s.co,.int .i64 s.po,.int .i64 s.pr,.int .i64 s.re,.int .i64 s.sw,.int .i64 s.fi,.int .i64 s.la,.int .i64 s.rs,.slice A n c],.slice B N d,.int .i64 i,.int .i64 k] W fun e w'=>e=.returned (.int .i64 (holdV s (R.map whO) i k))∧But No W w'):=hid (fun W i k hb=>CH.out W B d i k (HB1.out.trans hb) (HRD.out.no hb))
 have HSX1:=hid (HSX.out.ts.no HB1.out)
 have HL1:=hid (HL.out.no HB1.out)
 have HZ1:=hid (HZ.out.no HB1.out)
 obtain⟨wh,hwh⟩:∃ wh,R.map whO=wh:=⟨_,rfl⟩
 have HWH:=hid hwh
 rw[hwh] at HV HBM HBE HRD HRD1 CH1
 clear CW CH BS BK HSX HL HZ hwh HB0 HBK
 go_wp2_with fail
 go_loopw [12,13,14] (fun u e i wr=>∃ q:Nat,u=.int .i64 (bkM s wh R (zr Z co) (co:Int) pr q)∧e=.int .i64 (bkE s wh R (co:Int) pr q)∧i=.int .i64 (q:Int)∧q≤N∧Hid (But No w1 wr)) (fun _ _ i _=>N-(intOf i).toNat)
 case atStart=>exact⟨0,rfl,rfl,rfl,by omega,But.refl No w1⟩
 case round =>
  obtain⟨q,rfl,rfl,rfl,hq,HBR⟩:=hrel
  have hq0:(0:Int)≤(q:Int):=Int.natCast_nonneg q
  have hM:=HBM.out q
  have hE:=HBE.out q
  by_cases hqn:q<N
  ·have hqn2:(q:Int)<(N:Int):=by omega
   have b3:decide ((q:Int)<(N:Int))=true:=by simp;omega
   have hqt:(q:Int)<(n:Int):=by have:=HSX1.out.len;have:=HTN.out;omega
   obtain⟨l,hl⟩:∃ l,R[q]? = some l:=⟨_,List.getElem?_eq_getElem (by rw[HRN.out];exact hqn)⟩
   obtain⟨t,ht⟩:∃ t,s.ts[q]? = some t:=⟨_,List.getElem?_eq_getElem (by rw[HTN.out];exact hqn)⟩
   obtain⟨k0,k1,k2,k3,k4,k5,k6,k7,k8⟩:=BK1.out _ HBR.out
   obtain⟨bW,offW,hBW,_,hwc⟩:=(HRD1.out _ HBR.out).at_ (by omega)
   have wc:=hwc q hqn
   subst hBW
   have HWQ:Hid (wh.getD q 0=whO l):=hid (by rw[←HWH.out];simp[List.getD,hl])
   have HMN:Hid (bkM s wh R (zr Z co) (co:Int) pr (q+1)=if skP s wh R (co:Int) pr q=true then bkM s wh R (zr Z co) (co:Int) pr q else bkS s wh (zr Z co) pr q t.secs (bkM s wh R (zr Z co) (co:Int) pr q) t.secs.length):=hid (by rw[bkM,getT ht])
   have HEN:Hid (bkE s wh R (co:Int) pr (q+1)=if skP s wh R (co:Int) pr q=true then bkE s wh R (co:Int) pr q else bkE s wh R (co:Int) pr q+if inP s R pr q=true then 1 else 0):=hid (by rw[bkE])
   have HSK:Hid (skP s wh R (co:Int) pr q=(!decide (wh.getD q 0=co) || (decide (s.po=1) && decide ((l.getD 0 pc0).pr<pr)))):=hid (by unfold skP;rw[getL hl])
   have HIN:Hid (inP s R pr q=(decide (s.pr=2) && (decide (pr<(l.getD 0 pc0).pr) && decide (0<t.secs.length)))):=hid (by unfold inP;rw[getL hl,getT ht])
   have HBS:=hid (fun k=>bkS_bd HR.out wh (zr Z co) pr q t.secs hM k)
   generalize bkM s wh R (zr Z co) (co:Int) pr q=M at hM HMN HBS ⊢
   generalize bkE s wh R (co:Int) pr q=E at hE HEN ⊢
   have HLX:=hid hl
   have HTX:=hid ht
   have hs4:=HSL.out t (List.mem_of_getElem? ht)
   clear hl ht hwc
   obtain⟨zq,hzq⟩:∃ zq,wh.getD q 0=zq:=⟨_,rfl⟩
   rw[hzq] at wc HWQ HSK
   clear hzq
   obtain⟨SK,hSK⟩:∃ SK,skP s wh R (co:Int) pr q=SK:=⟨_,rfl⟩
   obtain⟨IN,hIN⟩:∃ IN,inP s R pr q=IN:=⟨_,rfl⟩
   rw[hSK] at HSK HMN HEN
   rw[hIN] at HIN HEN
   clear hSK hIN
   go_upto_region 7 with fail
   go_cut [46] (fun u wx=>u=.bool SK∧Hid (wx=wr))
   case first =>
    by_cases h1:zq=(co:Int)
    ·obtain⟨x,hx,hti,hco⟩:=whO_is (l:=l) (by rw[←HWQ.out,h1]) (Int.natCast_nonneg co)
     subst hx
     have b1:(zq != (co:Int))=false:=by simp[h1]
     obtain⟨bK,offK,AX,cX,hA',_,eR,_,hpx⟩:=(HL1.out.no HBR.out).at1 HLX.out
     subst hA'
     obtain⟨bX,offX,hAX,_,_,_,_,p3,_⟩:=hpx.at1 (k:=0) (x:=x) rfl
     subst hAX
     rw[show ([x]:List Pc).length=1 from rfl] at eR
     have HSX:Hid (SK=(decide (s.po=1) && decide (x.pr<pr))):=hid (by rw[HSK.out,h1];simp)
     clear hpx hti hco h1
     obtain⟨y,hy⟩:∃ y,x.pr=y:=⟨_,rfl⟩
     rw[hy] at p3 HSX
     clear hy HSK
     by_cases h2:s.po=1
     ·have b2:decide (s.po=1)=true:=by simp[h2]
      have b2':(s.po == 1)=true:=by simp[h2]
      clear h2
      by_cases h3:y<pr
      ·have b4:decide (y<pr)=true:=by simp[h3]
       have HE9:Hid (true=SK):=hid (by rw[HSX.out,b2,b4];rfl)
       go_wp2_with fail
       all_goals (go_meet;exact⟨by rw[HE9.out],rfl⟩)
      ·have b4:decide (y<pr)=false:=by simp;omega
       have HE9:Hid (false=SK):=hid (by rw[HSX.out,b2,b4];rfl)
       go_wp2_with fail
       all_goals (go_meet;exact⟨by rw[HE9.out],rfl⟩)
     ·have b2:decide (s.po=1)=false:=by simp[h2]
      have b2':(s.po == 1)=false:=by simp[h2]
      have HE9:Hid (false=SK):=hid (by rw[HSX.out,b2];rfl)
      go_wp2_with fail
      all_goals (go_meet;exact⟨by rw[HE9.out],rfl⟩)
    ·have b1:(zq != (co:Int))=true:=by simp[h1]
     have HE9:Hid (true=SK):=hid (by rw[HSK.out];simp[h1])
     go_wp2_with fail
     all_goals (go_meet;exact⟨by rw[HE9.out],rfl⟩)
   case rest =>
   obtain⟨rfl,HWX⟩:=hcut
   rw[HWX.out]
   clear HWX
   cases SK with
   | true =>
    rw[if_pos rfl] at HMN HEN
    go_wp2_with fail
    go_roundw
    case rel=>exact⟨q+1,by rw[HMN.out],by rw[HEN.out],by go_num,by omega,HBR.out⟩
    case measure=>simp[intOf];omega
   | false =>
    rw[if_neg (by simp)] at HMN HEN
    have HSKN:Hid (zq=(co:Int)):=hid (by
     have h9:=HSK.out.symm
     rw[Bool.or_eq_false_iff] at h9
     simpa using h9.1)
    obtain⟨x,hx,hti,hco⟩:=whO_is (l:=l) (by rw[←HWQ.out,HSKN.out]) (Int.natCast_nonneg co)
    subst hx
    clear HSK wc hti hco
    obtain⟨bK,offK,AX,cX,hA',_,eR,_,hpx⟩:=(HL1.out.no HBR.out).at1 HLX.out
    subst hA'
    obtain⟨bX,offX,hAX,_,_,_,_,p3,_⟩:=hpx.at1 (k:=0) (x:=x) rfl
    subst hAX
    rw[show ([x]:List Pc).length=1 from rfl] at eR
    obtain⟨bt,offt,AS,cS,hAn,_,_,_,q3',_,hsec⟩:=HSX1.out.at1 HTX.out
    subst hAn
    have HQ3:=hid q3'
    have q3:=cell_keep q3' HBR.out
    clear q3'
    obtain⟨sl,hsl⟩:∃ sl,t.secs.length=sl:=⟨_,rfl⟩
    have HSN:=hid hsl
    have HIX:Hid (IN=(decide (s.pr=2) && (decide (pr<x.pr) && decide (0<sl)))):=hid (by rw[←hsl];exact HIN.out)
    have HSEC:=hid hsec
    rw[hsl] at q3 HQ3 HSEC hs4 HMN
    clear hpx hsl hsec HIN
    obtain⟨y,hy⟩:∃ y,x.pr=y:=⟨_,rfl⟩
    rw[hy] at p3 HIX
    clear hy
    have hsl0:(0:Int)≤(sl:Int):=Int.natCast_nonneg sl
    go_upto_region 8 with fail
    go_cut [70] (fun u wx=>u=.bool IN∧Hid (wx=wr))
    case first =>
     by_cases h2:s.pr=2
     ·have b2:decide (s.pr=2)=true:=by simp[h2]
      have b2':(s.pr == 2)=true:=by simp[h2]
      clear h2
      by_cases h3:pr<y
      ·have b4:decide (pr<y)=true:=by simp[h3]
       by_cases h4:0<sl
       ·have b5:decide (0<sl)=true:=by simp[h4]
        have b5':decide ((0:Int)<(sl:Int))=true:=by simp;omega
        have HE9:Hid (true=IN):=hid (by rw[HIX.out,b2,b4,b5];rfl)
        go_wp2_with fail
        all_goals (go_meet;exact⟨by rw[HE9.out],rfl⟩)
       ·have b5:decide (0<sl)=false:=by simp;omega
        have b5':decide ((0:Int)<(sl:Int))=false:=by simp;omega
        have HE9:Hid (false=IN):=hid (by rw[HIX.out,b2,b4,b5];rfl)
        go_wp2_with fail
        all_goals (go_meet;exact⟨by rw[HE9.out],rfl⟩)
      ·have b4:decide (pr<y)=false:=by simp;omega
       have HE9:Hid (false=IN):=hid (by rw[HIX.out,b2,b4];rfl)
       go_wp2_with fail
       all_goals (go_meet;exact⟨by rw[HE9.out],rfl⟩)
     ·have b2:decide (s.pr=2)=false:=by simp[h2]
      have b2':(s.pr == 2)=false:=by simp[h2]
      have HE9:Hid (false=IN):=hid (by rw[HIX.out,b2];rfl)
      go_wp2_with fail
      all_goals (go_meet;exact⟨by rw[HE9.out],rfl⟩)
    case rest =>
    obtain⟨rfl,HWX⟩:=hcut
    rw[HWX.out]
    clear HWX
    obtain⟨E2,hE2⟩:∃ E2,(E+if IN=true then 1 else 0)=E2:=⟨_,rfl⟩
    rw[hE2] at HEN
    have hE3:2≤E2∧E2≤3+(q:Int):=by rw[←hE2];split <;> omega
    go_upto_if 70 with fail
    go_cut [13] (fun u wx=>u=.int .i64 E2∧Hid (wx=wr))
    case first =>
     cases IN with
     | true =>
      rw[if_pos rfl] at hE2
      have HE2:=hid hE2
      clear hE2
      go_wp2_with fail
      all_goals (go_meet;exact⟨by rw[HE2.out],rfl⟩)
     | false =>
      rw[if_neg (by simp)] at hE2
      have HE2:Hid (E=E2):=hid (by omega)
      clear hE2
      go_wp2_with fail
      all_goals (go_meet;exact⟨by rw[HE2.out],rfl⟩)
    case rest =>
    obtain⟨rfl,HWX⟩:=hcut
    rw[HWX.out]
    clear HWX hE2 HIX
    have HBR0:=HBR
    clear p3 eR k0 k1 k2 k3 k4 k5 k6 k7 k8 q3
    go_wp2_with fail
    go_loopw [12,15] (fun u i w3=>∃ (k:Nat) (m:Int),u=.int .i64 m∧i=.int .i64 (k:Int)∧k≤sl∧m=bkS s wh (zr Z co) pr q t.secs M k∧Hid (But No w1 w3)) (fun _ i _=>sl-(intOf i).toNat)
    case atStart=>exact⟨0,M,rfl,rfl,by omega,rfl,HBR0.out⟩
    case round =>
     obtain⟨k,m,rfl,rfl,hk,hm,HBR⟩:=hrel
     clear HBR0
     have hk0:(0:Int)≤(k:Int):=Int.natCast_nonneg k
     obtain⟨k0,k1,k2,k3,k4,k5,k6,k7,k8⟩:=BK1.out _ HBR.out
     have q3:=cell_keep HQ3.out HBR.out
     have hmb:=HBS.out k
     rw[←hm] at hmb
     have HM9:=hid hm
     clear hm
     by_cases hks:k<sl
     ·have hks2:(k:Int)<(sl:Int):=by omega
      have b4:decide ((k:Int)<(sl:Int))=true:=by simp;omega
      obtain⟨y,hy⟩:∃ y,t.secs[k]? = some y:=⟨_,List.getElem?_eq_getElem (by rw[HSN.out];exact hks)⟩
      obtain⟨bS,offS,hAS,_,y1,_⟩:=(HSEC.out.no HBR.out).at1 hy
      subst hAS
      have hyr:=(right_sec HR.out (List.mem_of_getElem? HTX.out) (List.mem_of_getElem? hy)).1
      obtain⟨rr,hrr⟩:∃ rr:Nat,y.2.1=(rr:Int):=⟨y.2.1.toNat,by omega⟩
      have HNX:=hid (bkS_next (s:=s) (wh:=wh) (z:=zr Z co) (pr:=pr) (i:=q) (m:=M) hy)
      rw[hrr] at y1 hyr HNX
      obtain⟨bZ,offZ,AR,cR,hAZ,_,z0,_,hrl⟩:=(HZ1.out.no HBR.out).at1 HZR.out
      subst hAZ
      have hrn:rr<row.length:=by rw[HRW.out];omega
      obtain⟨bR,offR,hAR,_,hrc⟩:=hrl.at_ (by omega)
      subst hAR
      have z1:=hrc rr hrn
      have HZZ:Hid (zr Z co (rr:Int)=row.getD rr 0):=hid (by unfold zr;simp[List.getD,HZR.out])
      obtain⟨zz,hzz⟩:∃ zz,row.getD rr 0=zz:=⟨_,rfl⟩
      rw[hzz] at z1 HZZ
      obtain⟨nr,hnr⟩:∃ nr,row.length=nr:=⟨_,rfl⟩
      rw[hnr] at z0 hrn
      have hcoz:(co:Int)<(NZ:Int):=by have h1:=HZ1.out.len;have h2:=(List.getElem?_eq_some_iff.1 HZR.out).1;omega
      have hco0:(0:Int)≤(co:Int):=Int.natCast_nonneg co
      have hrr0:(0:Int)≤(rr:Int):=Int.natCast_nonneg rr
      have hrr1:(rr:Int)<(nr:Int):=by omega
      obtain⟨HI,hHI⟩:∃ HI,hiP s (zr Z co) pr (rr:Int)=HI:=⟨_,rfl⟩
      rw[hHI] at HNX
      have HH:Hid (HI=(decide (s.pr=2) && decide (pr<zz))):=hid (by rw[←hHI];unfold hiP;rw[HZZ.out])
      clear hy hrl hrc hzz hnr hHI
      go_upto_region 14 with fail
      go_cut [107] (fun u wx=>u=.bool HI∧Hid (wx=wr))
      case first =>
       by_cases h2:s.pr=2
       ·have b2:decide (s.pr=2)=true:=by simp[h2]
        have b2':(s.pr == 2)=true:=by simp[h2]
        clear h2
        by_cases h3:pr<zz
        ·have b5:decide (pr<zz)=true:=by simp[h3]
         have HE9:Hid (true=HI):=hid (by rw[HH.out,b2,b5];rfl)
         go_wp2_with fail
         all_goals (go_meet;exact⟨by rw[HE9.out],rfl⟩)
        ·have b5:decide (pr<zz)=false:=by simp;omega
         have HE9:Hid (false=HI):=hid (by rw[HH.out,b2,b5];rfl)
         go_wp2_with fail
         all_goals (go_meet;exact⟨by rw[HE9.out],rfl⟩)
       ·have b2:decide (s.pr=2)=false:=by simp[h2]
        have b2':(s.pr == 2)=false:=by simp[h2]
        have HE9:Hid (false=HI):=hid (by rw[HH.out,b2];rfl)
        go_wp2_with fail
        all_goals (go_meet;exact⟨by rw[HE9.out],rfl⟩)
      case rest =>
      obtain⟨rfl,HWX⟩:=hcut
      rw[HWX.out]
      clear HWX HH
      cases HI with
      | true =>
       rw[if_pos rfl,←HM9.out] at HNX
       have HNY:=hid HNX.out.symm
       go_wp2_with fail
       go_roundw
       case rel=>exact⟨k+1,m,rfl,by go_num,by omega,HNY.out,HBR.out⟩
       case measure=>simp[intOf];omega
      | false =>
       rw[if_neg (by simp),←HM9.out] at HNX
       have hhb:=hold_bd HR.out wh (q:Int) (k:Int)
       have CH2:=hid (CH1.out wr (q:Int) (k:Int) HBR.out)
       generalize holdV s wh (q:Int) (k:Int)=H at HNX hhb CH2
       have hpm:(if m<H then H else m)=max m H:=by omega
       have HNY:=hid HNX.out.symm
       go_wp2_with (go_at_call 82;(with_reducible refine CH2.out.mono ?_);rintro e w5 ⟨rfl,hb5⟩;have HB5:=hid (HBR.out.trans hb5);clear hb5)
       go_roundw
       case rel=>exact⟨k+1,max m H,rfl,by go_num,by omega,HNY.out,HB5.out⟩
       case measure=>simp[intOf];omega
     ·have hke:k=sl:=by omega
      have b4:decide ((k:Int)<(sl:Int))=false:=by simp;omega
      have HNY:Hid (m=bkM s wh R (zr Z co) (co:Int) pr (q+1)):=hid (by rw[HMN.out,HM9.out,hke])
      clear hke
      go_wp2_with fail
      go_roundw
      case rel=>exact⟨q+1,by rw[HNY.out],by rw[HEN.out],by go_num,by omega,HBR.out⟩
      case measure=>simp[intOf];omega
  ·have hqe:q=N:=by omega
   have b3:decide ((q:Int)<(N:Int))=false:=by simp;omega
   obtain⟨k0,k1,k2,k3,k4,k5,k6,k7,k8⟩:=BK1.out _ HBR.out
   rw[←hqe] at HV
   generalize bkM s wh R (zr Z co) (co:Int) pr q=M at hM HV ⊢
   generalize bkE s wh R (co:Int) pr q=E at hE HV ⊢
   obtain⟨_,⟨s0,s1⟩,f0,f1⟩:=hcosts
   have h3:0≤E*s.fi:=Int.mul_nonneg (by omega) f0
   have h4:E*s.fi≤26*50:=Int.mul_le_mul (by omega) f1 f0 (by omega)
   have w1_:IntKind.i64.wrap (E*s.fi)=E*s.fi:=IntWalk.i64_in _ (by omega)
   have hV:=HV.out
   clear hqe
   go_wp2_with fail
   go_ret
   exact⟨ret1 (by rw[HV.out]),(HB1.out.trans HBR.out)⟩
end Go.Proofs.YtjfaiaipojfhgaaGreat.pln
end
