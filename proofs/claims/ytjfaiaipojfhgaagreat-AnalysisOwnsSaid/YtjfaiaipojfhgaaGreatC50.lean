/- Part 50 of a proof: PaM2 PaM3 PaM4. -/
import Derived.Test.YtjfaiaipojfhgaaGreatC25
import Derived.Test.YtjfaiaipojfhgaaGreatC26
import Derived.Test.YtjfaiaipojfhgaaGreatC40
import Derived.Test.YtjfaiaipojfhgaaGreatC49
section
namespace Go.Proofs.YtjfaiaipojfhgaaGreat.pln
set_option linter.unusedVariables false
set_option linter.unusedSimpArgs false
open Go.ChangeShapes Go.WideShapes Go.ChangeAt Go.RowKit Go.Deep val
theorem lfN_is (la d:Int) (l:List Pc):∀ k:Nat,lfN la d l k=d-smN l k-(k:Int)*(la-1)
 | 0=>by rw[lfN,smN];simp
 | k+1=>by
  rw[lfN,smN,lfN_is la d l k]
  have:((k+1:Nat):Int)*(la-1)=(k:Int)*(la-1)+(la-1):=by rw[Int.natCast_add,Int.add_mul];simp
  omega
def RG (s:Sys) (t:Tsk) (l:List Pc) (k:Nat) (x:Pc):Prop :=
 k<8∧(0≤x.co∧x.co<s.co)∧1≤x.bu∧(x.ti=true→x.bu<t.w-smN l k∧x.de=x.bu∧t.secs.length=0)∧(x.ti=false→k+1=l.length∧x.bu=t.w-smN l k∧x.de=t.d-(smN l k+(k:Int)*(s.la-1))∧1≤x.de)
theorem small_k {k:Nat} {a:Int} (hk:k<8) (ha:0≤a∧a≤49):0≤(k:Int)*a∧(k:Int)*a≤343:=by
 have h1:(k:Int)≤7:=by omega
 constructor
 ·exact Int.mul_nonneg (by omega) ha.1
 ·have:=Int.mul_le_mul h1 ha.2 ha.1 (by omega)
  omega
theorem rg_iff {s:Sys} {t:Tsk} {l:List Pc} {i k:Nat} {x:Pc} (hla:1≤s.la∧s.la≤50) (hw:1≤t.w∧t.w≤1099511627776) (hd:1≤t.d∧t.d≤1099511627776) (hsm:dnW l k=smN l k∧0≤smN l k∧smN l k≤1099511627776):rgV s t (mkP (wrp (s.la-1)) i l k x)=true ↔ RG s t l k x:=by
 by_cases hk:k<8
 ·have hlt:wrp (s.la-1)=s.la-1:=wrp_in (by unfold inR;omega)
  have hkl:=small_k hk (show 0≤s.la-1∧s.la-1≤49 by omega)
  have h1:wrp ((k:Int)*(s.la-1))=(k:Int)*(s.la-1):=wrp_in (by unfold inR;omega)
  have h2:wrp (t.w-smN l k)=t.w-smN l k:=wrp_in (by unfold inR;omega)
  have h3:wrp (smN l k+(k:Int)*(s.la-1))=smN l k+(k:Int)*(s.la-1):=wrp_in (by unfold inR;omega)
  have h4:wrp (t.d-(smN l k+(k:Int)*(s.la-1)))=t.d-(smN l k+(k:Int)*(s.la-1)):=wrp_in (by unfold inR;omega)
  unfold rgV RG mkP
  dsimp only
  rw[hlt,hsm.1,h1,h2,h3,h4]
  generalize (k:Int)*(s.la-1)=z
  generalize smN l k=y
  cases x.ti with
  | true=>simp only[if_true,Bool.and_eq_true,Bool.not_eq_true',Bool.or_eq_false_iff,decide_eq_false_iff_not,decide_eq_true_eq,true_implies,Bool.true_eq_false,false_implies,and_true];omega
  | false=>simp only[Bool.false_eq_true,if_false,Bool.and_eq_true,Bool.not_eq_true',Bool.or_eq_false_iff,decide_eq_false_iff_not,decide_eq_true_eq,true_implies,false_implies,true_and];omega
 ·constructor
  ·intro h
   have:k<8:=rgV_k h
   omega
  ·intro h;exact absurd h.1 hk
theorem dn_sm {l:List Pc} {B:Int} (hB:B≤1099511627776):∀ k,k≤l.length→(∀ j,j≤k→0≤smN l j∧smN l j≤B)→dnW l k=smN l k
 | 0,_,_=>rfl
 | k+1,hk,h=>by
  rw[dnW,smN,dn_sm hB k (by omega) (fun j hj=>h j (by omega))]
  have:=h (k+1) (by omega)
  rw[smN] at this
  exact wrp_in (by unfold inR;omega)
theorem sm_mono {l:List Pc} (h:∀ x ∈ l,1≤x.bu) {k:Nat}:∀ d,k+d≤l.length→smN l k+d≤smN l (k+d)
 | 0,_=>by simp
 | d+1,hd=>by
  have hx:l[k+d]? = some (l[k+d]'(by omega)):=List.getElem?_eq_getElem (by omega)
  have ih:=sm_mono h d (k:=k) (by omega)
  have:=h _ (List.getElem_mem (show k+d<l.length by omega))
  rw[←Nat.add_assoc,smN_next hx]
  omega
theorem okL_sm {s:Sys} {t:Tsk} {l:List Pc} (h:okL s t l=true) (hw:1≤t.w):(∀ x ∈ l,1≤x.bu)∧l.length≤8∧(∀ k,k≤l.length→0≤smN l k∧smN l k≤t.w)∧(l ≠ []→((l.getD (l.length-1) pc0).ti=true→smN l l.length<t.w)∧((l.getD (l.length-1) pc0).ti=false→smN l l.length=t.w)):=by
 have hb:∀ x ∈ l,1≤x.bu:=fun x hx=>by
  obtain⟨k,hk⟩:=List.mem_iff_getElem?.1 hx
  have:=okL_piece h hk
  unfold badP bad1 at this
  simp only[Bool.or_eq_false_iff,decide_eq_false_iff_not] at this
  omega
 have h8:=okL_len h
 have hend:l ≠ []→((l.getD (l.length-1) pc0).ti=true→smN l l.length<t.w)∧((l.getD (l.length-1) pc0).ti=false→smN l l.length=t.w):=fun hne=>by
  unfold okL at h
  simp only[Bool.and_eq_true,Bool.or_eq_true,decide_eq_true_eq] at h
  rcases h.2.2 with e | e
  ·exact absurd e hne
  ·constructor
   ·intro e2;rw[if_pos e2] at e;simpa using e
   ·intro e2;rw[if_neg (by rw[e2];simp)] at e;simpa using e
 refine⟨hb,h8,fun k hk=>?_,hend⟩
 have h0:=sm_mono hb (k:=0) k (by omega)
 have h1:=sm_mono hb (k:=k) (l.length-k) (by omega)
 rw[Nat.zero_add] at h0
 rw[show k+(l.length-k)=l.length by omega] at h1
 have hz:smN l 0=0:=rfl
 rw[hz] at h0
 refine⟨by omega,?_⟩
 by_cases hne:l = []
 ·subst hne
  have:k=0:=by simpa using hk
  subst this
  rw[hz];omega
 ·have:=hend hne
  cases e:(l.getD (l.length-1) pc0).ti with
  | true=>have:=this.1 e;omega
  | false=>have:=this.2 e;omega
theorem okL_rg {s:Sys} {t:Tsk} {l:List Pc} (h:okL s t l=true) (hw:1≤t.w) {k:Nat} {x:Pc} (hx:l[k]? = some x):RG s t l k x∧∀ j y,j<k→l[j]? = some y→y.co≠x.co:=by
 have hk:k<l.length:=(List.getElem?_eq_some_iff.1 hx).1
 obtain⟨hb,h8,hsm,hend⟩:=okL_sm h hw
 have hp:=okL_piece h hx
 have hne:l ≠ []:=by intro e;rw[e] at hk;simp at hk
 obtain⟨he1,he2⟩:=hend hne
 unfold badP bad1 bad3 at hp
 rw[lfN_is] at hp
 simp only[Bool.or_eq_false_iff,Bool.and_eq_false_iff,decide_eq_false_iff_not,Bool.not_eq_false',Bool.not_eq_true',decide_eq_true_eq] at hp
 obtain⟨⟨p1,p2,p3,p4,p5,p6⟩,p7,p8,p9⟩:=hp
 have hbu:=hb x (List.mem_of_getElem? hx)
 have hnx:=smN_next hx
 refine⟨⟨by omega,⟨by omega,by omega⟩,hbu,fun ht=>?_,fun ht=>?_⟩,fun j y hj hy e=>?_⟩
 ·refine⟨?_,?_,?_⟩
  ·by_cases hl:k+1=l.length
   ·have hlast:l.getD (l.length-1) pc0=x:=by rw[show l.length-1=k by omega];simp[List.getD,hx]
    have:=he1 (by rw[hlast];exact ht)
    rw[←hl,hnx] at this
    omega
   ·have h1:=sm_mono hb (k:=k+1) (l.length-(k+1)) (by omega)
    rw[show k+1+(l.length-(k+1))=l.length by omega] at h1
    have h2:=(hsm l.length (Nat.le_refl _)).2
    omega
  ·rcases p8 with e | e
   ·rw[ht] at e;cases e
   ·exact e
  ·rcases p6 with e | e
   ·rw[ht] at e;cases e
   ·omega
 ·have hl:k+1=l.length:=okL_tight h hx ht
  have hlast:l.getD (l.length-1) pc0=x:=by rw[show l.length-1=k by omega];simp[List.getD,hx]
  have:=he2 (by rw[hlast];exact ht)
  rw[←hl,hnx] at this
  rcases p9 with e | e
  ·rw[ht] at e;cases e
  ·obtain⟨e1,e2⟩:=e
   exact⟨hl,by omega,by omega,by omega⟩
 ·have:=bad2_next hj hy e
  rw[p7] at this;cases this
theorem rg_okL {s:Sys} {t:Tsk} {l:List Pc} (hw:1≤t.w) (h:∀ k x,l[k]? = some x→RG s t l k x∧∀ j y,j<k→l[j]? = some y→y.co≠x.co):okL s t l=true:=by
 have hb:∀ x ∈ l,1≤x.bu:=fun x hx=>by
  obtain⟨k,hk⟩:=List.mem_iff_getElem?.1 hx
  exact(h k x hk).1.2.2.1
 have h8:l.length≤8:=by
  by_cases h0:l.length=0
  ·omega
  ·have:=(h (l.length-1) _ (List.getElem?_eq_getElem (by omega))).1.1
   omega
 have hs0:∀ k,k≤l.length→0≤smN l k:=fun k hk=>by
  have h0:=sm_mono hb (k:=0) k (by omega)
  rw[Nat.zero_add] at h0
  have hz:smN l 0=0:=rfl
  omega
 have hok:∀ k,k≤l.length→okN s t l k=true:=by
  intro k
  induction k with
  | zero=>intro _;rfl
  | succ k ih =>
   intro hk
   have hx:l[k]? = some (l[k]'(by omega)):=List.getElem?_eq_getElem (by omega)
   obtain⟨⟨g1,g2,g3,g4,g5⟩,g6⟩:=h k _ hx
   refine okN_next hx (ih (by omega)) ?_
   have hz:=hs0 k (by omega)
   unfold badP bad1 bad3
   rw[bad2_none (fun j y hj hy=>g6 j y hj hy),lfN_is]
   cases ht:l[k].ti with
   | true =>
    obtain⟨a1,a2,a3⟩:=g4 ht
    simp only[Bool.or_eq_false_iff,Bool.and_eq_false_iff,decide_eq_false_iff_not,Bool.not_eq_false',Bool.not_eq_true',decide_eq_true_eq,Bool.not_true,Bool.false_and,Bool.true_and,Bool.false_or,Bool.or_false,true_and,and_true]
    omega
   | false =>
    obtain⟨a1,a2,a3,a4⟩:=g5 ht
    simp only[Bool.or_eq_false_iff,Bool.and_eq_false_iff,decide_eq_false_iff_not,Bool.not_eq_false',Bool.not_eq_true',decide_eq_true_eq,Bool.not_false,Bool.false_and,Bool.true_and,Bool.false_or,Bool.or_false,true_and,and_true]
    omega
 unfold okL
 rw[hok _ (Nat.le_refl _),decide_eq_true h8]
 by_cases hne:l = []
 ·simp[hne]
 ·have hpos:0<l.length:=List.length_pos_iff.2 hne
  have hx:l[l.length-1]? = some (l[l.length-1]'(by omega)):=List.getElem?_eq_getElem (by omega)
  obtain⟨⟨g1,g2,g3,g4,g5⟩,g6⟩:=h _ _ hx
  have hnx:=smN_next hx
  rw[show l.length-1+1=l.length by omega] at hnx
  have hl:l.getD (l.length-1) pc0=l[l.length-1]'(by omega):=by simp[List.getD,hx]
  rw[hl,hnx]
  cases ht:(l[l.length-1]'(by omega)).ti with
  | true=>have:=g4 ht;simp[hne];omega
  | false=>have:=g5 ht;simp[hne];omega
end Go.Proofs.YtjfaiaipojfhgaaGreat.pln
end
section
namespace Go.Proofs.YtjfaiaipojfhgaaGreat.pln
set_option linter.unusedVariables false
set_option linter.unusedSimpArgs false
open Go.ChangeShapes Go.WideShapes Go.ChangeAt Go.RowKit Go.Deep val
theorem vOk_all {s:Sys} {P:List Pt}:vOk s P P.length=true ↔ ∀ p x,P[p]? = some x→okB s (P.take p) x=true:=by
 constructor
 ·intro h p x hx
  exact vOk_at h (List.getElem?_eq_some_iff.1 hx).1 hx
 ·intro h
  have key:∀ q,q≤P.length→vOk s P q=true:=by
   intro q
   induction q with
   | zero=>intro _;rfl
   | succ q ih =>
    intro hq
    have hx:P[q]? = some (P[q]'(by omega)):=List.getElem?_eq_getElem (by omega)
    rw[vOk_next hx,ih (by omega),h _ _ hx];rfl
  exact key _ (Nat.le_refl _)
theorem okS_all {s:Sys} {L:List (List Pc)}:okS s L L.length=true ↔ ∀ i l,L[i]? = some l→okL s (s.ts.getD i ts0) l=true:=by
 constructor
 ·intro h i l hl;exact okS_at h hl
 ·intro h
  have key:∀ q,q≤L.length→okS s L q=true:=by
   intro q
   induction q with
   | zero=>intro _;rfl
   | succ q ih =>
    intro hq
    have hx:L[q]? = some (L[q]'(by omega)):=List.getElem?_eq_getElem (by omega)
    rw[okS,ih (by omega),getL hx,h _ _ hx];rfl
  exact key _ (Nat.le_refl _)
theorem taken_iff {lt:Int} {L:List (List Pc)} {i k:Nat} {l:List Pc} {c:Int} (hl:L[i]? = some l) (hk:k≤l.length):(mpF ((vis lt L).take (offN L i+k)) c (i:Int)).isSome=true ↔ ∃ j y,j<k∧l[j]? = some y∧y.co=c:=by
 constructor
 ·intro h
  obtain⟨x,hx⟩:=Option.isSome_iff_exists.1 h
  obtain⟨z,hz,_,h1,h2⟩:=mpF_some hx
  obtain⟨p,hp,hpz⟩:=mem_take.1 hz
  obtain⟨i',l',j,y,g1,g2,g3,g4⟩:=vis_inv hpz
  have hi:i'=i:=by rw[g4] at h2;have h3:(i':Int)=(i:Int):=h2;omega
  subst hi
  rw[hl] at g1;cases g1
  exact⟨j,y,by omega,g2,by rw[g4] at h1;exact h1⟩
 ·rintro⟨j,y,hj,hy,rfl⟩
  have hv:=vis_at (lt:=lt) hl hy
  exact mpF_hit (y:=mkP lt i l j y) (mem_take.2 ⟨_,by omega,hv⟩)
theorem tsk_nums {s:Sys} (hr:right s=true) {L:List (List Pc)} (hL:L.length=s.ts.length) {i:Nat} {l:List Pc} (hl:L[i]? = some l):(1≤(s.ts.getD i ts0).w∧(s.ts.getD i ts0).w≤1099511627776)∧1≤(s.ts.getD i ts0).d∧(s.ts.getD i ts0).d≤1099511627776:=by
 have hi:i<s.ts.length:=by rw[←hL];exact(List.getElem?_eq_some_iff.1 hl).1
 have:s.ts.getD i ts0=s.ts[i]:=by simp[List.getD,List.getElem?_eq_getElem hi]
 rw[this]
 exact(right_nums hr).2.2.2 _ (List.getElem_mem hi)
theorem okL_dn {s:Sys} {t:Tsk} {l:List Pc} (h:okL s t l=true) (hw:1≤t.w∧t.w≤1099511627776) {k:Nat} (hk:k≤l.length):dnW l k=smN l k∧0≤smN l k∧smN l k≤1099511627776:=by
 obtain⟨_,_,h3,_⟩:=okL_sm h hw.1
 have:=h3 k hk
 exact⟨dn_sm hw.2 k hk (fun j hj=>h3 j (by omega)),this.1,by omega⟩
theorem vOk_iff {s:Sys} {L:List (List Pc)} (hr:right s=true) (hL:L.length=s.ts.length):vOk s (vis (wrp (s.la-1)) L) (vis (wrp (s.la-1)) L).length=okS s L L.length:=by
 have hla:=(right_nums hr).2.1
 rw[Bool.eq_iff_iff,vOk_all,okS_all]
 constructor
 ·intro h i l hl
  obtain⟨hw,hd⟩:=tsk_nums hr hL hl
  have hq:∀ k x,l[k]? = some x→rgV s (s.ts.getD i ts0) (mkP (wrp (s.la-1)) i l k x)=true∧∀ j y,j<k→l[j]? = some y→y.co≠x.co:=fun k x hx=>by
   have h1:=h _ _ (vis_at (lt:=wrp (s.la-1)) hl hx)
   unfold okB at h1
   rw[Bool.and_eq_true] at h1
   refine⟨h1.2,fun j y hj hy e=>?_⟩
   have h2:=(taken_iff (lt:=wrp (s.la-1)) (c:=x.co) hl (Nat.le_of_lt (List.getElem?_eq_some_iff.1 hx).1)).2 ⟨j,y,hj,hy,e⟩
   have h3:(mkP (wrp (s.la-1)) i l k x).p.co=x.co:=rfl
   have h4:(mkP (wrp (s.la-1)) i l k x).i=i:=rfl
   rw[h3,h4,h2] at h1
   simp at h1
  have hsm:∀ k,k≤l.length→∀ j,j≤k→0≤smN l j∧smN l j≤(s.ts.getD i ts0).w:=by
   intro k
   induction k with
   | zero =>
      intro _ j hj
      obtain rfl:j=0:=by omega
      exact⟨Int.le_refl _,by show (0:Int)≤_;omega⟩
   | succ k ih =>
    intro hk j hj
    have ihk:=ih (by omega)
    by_cases e:j≤k
    ·exact ihk j e
    ·obtain rfl:j=k+1:=by omega
     have hx:l[k]? = some (l[k]'(by omega)):=List.getElem?_eq_getElem (by omega)
     have hk2:=ihk k (Nat.le_refl _)
     have hg:=(rg_iff hla hw hd ⟨dn_sm hw.2 k (by omega) ihk,hk2.1,by omega⟩).1 (hq k _ hx).1
     obtain⟨_,_,g3,g4,g5⟩:=hg
     rw[smN_next hx]
     cases ht:l[k].ti with
     | true=>have:=g4 ht;omega
     | false=>have:=g5 ht;omega
  refine rg_okL hw.1 (fun k x hx=>?_)
  have hk:k≤l.length:=Nat.le_of_lt (List.getElem?_eq_some_iff.1 hx).1
  have hk2:=hsm k hk k (Nat.le_refl _)
  exact⟨(rg_iff hla hw hd ⟨dn_sm hw.2 k hk (hsm k hk),hk2.1,by omega⟩).1 (hq k x hx).1,(hq k x hx).2⟩
 ·intro h p x hx
  obtain⟨i,l,k,y,h1,h2,rfl,rfl⟩:=vis_inv hx
  obtain⟨hw,hd⟩:=tsk_nums hr hL h1
  have hok:=h i l h1
  have hk:k≤l.length:=Nat.le_of_lt (List.getElem?_eq_some_iff.1 h2).1
  obtain⟨hg,hdis⟩:=okL_rg hok hw.1 h2
  unfold okB
  rw[Bool.and_eq_true]
  refine⟨?_,(rg_iff hla hw hd (okL_dn hok hw hk)).2 hg⟩
  rw[Bool.not_eq_true']
  cases e:(mpF ((vis (wrp (s.la-1)) L).take (offN L i+k)) (mkP (wrp (s.la-1)) i l k y).p.co ((mkP (wrp (s.la-1)) i l k y).i:Int)).isSome with
  | false=>rfl
  | true =>
   obtain⟨j,z,g1,g2,g3⟩:=(taken_iff (c:=y.co) h1 hk).1 e
   exact absurd g3 (hdis j z g1 g2)
def ptOf (s:Sys) (L:List (List Pc)) (y:Ap):Pt:=⟨y.p,y.i,y.k,decide (y.k+1=(L.getD y.i []).length),smN (L.getD y.i []) y.k,(y.k:Int)*(s.la-1)⟩
theorem mkP_is {s:Sys} {L:List (List Pc)} (hr:right s=true) (hL:L.length=s.ts.length) (hok:okS s L L.length=true) {i k:Nat} {l:List Pc} {x:Pc} (hl:L[i]? = some l) (hx:l[k]? = some x):mkP (wrp (s.la-1)) i l k x=ptOf s L ⟨x,i,k⟩:=by
 have hla:=(right_nums hr).2.1
 obtain⟨hw,hd⟩:=tsk_nums hr hL hl
 have h1:=okS_at hok hl
 have hkl:k<l.length:=(List.getElem?_eq_some_iff.1 hx).1
 have h8:=okL_len h1
 have hlt:wrp (s.la-1)=s.la-1:=wrp_in (by unfold inR;omega)
 have hkz:=small_k (k:=k) (by omega) (show 0≤s.la-1∧s.la-1≤49 by omega)
 unfold mkP ptOf
 dsimp only
 rw[getL hl,(okL_dn h1 hw (Nat.le_of_lt hkl)).1,hlt,wrp_in (a:=(k:Int)*(s.la-1)) (by unfold inR;omega)]
theorem mpF_at {s:Sys} {L:List (List Pc)} (hr:right s=true) (hL:L.length=s.ts.length) (hok:okS s L L.length=true) {c:Int} {i:Nat} {x:Pt}:mpF (vis (wrp (s.la-1)) L) c (i:Int)=some x ↔ ∃ l k y,L[i]? = some l∧l[k]? = some y∧y.co=c∧x=zpP (ptOf s L ⟨y,i,k⟩):=by
 have fwd:∀ x,mpF (vis (wrp (s.la-1)) L) c (i:Int)=some x→∃ l k y,L[i]? = some l∧l[k]? = some y∧y.co=c∧x=zpP (ptOf s L ⟨y,i,k⟩):=fun x h=>by
  obtain⟨z,hz,rfl,h1,h2⟩:=mpF_some h
  obtain⟨i',l,k,y,g1,g2,rfl⟩:=vis_mem hz
  have hi:i'=i:=by have h3:(i':Int)=(i:Int):=h2;omega
  subst hi
  exact⟨l,k,y,g1,g2,h1,by rw[mkP_is hr hL hok g1 g2]⟩
 constructor
 ·exact fwd x
 ·rintro⟨l,k,y,h1,h2,rfl,rfl⟩
  have hm:mkP (wrp (s.la-1)) i l k y ∈ vis (wrp (s.la-1)) L:=List.mem_of_getElem? (vis_at h1 h2)
  obtain⟨x',hx'⟩:=Option.isSome_iff_exists.1 (mpF_hit hm)
  have hx2:mpF (vis (wrp (s.la-1)) L) y.co (i:Int)=some x':=hx'
  obtain⟨l',k',y',g1,g2,g3,g4⟩:=fwd x' hx2
  rw[h1] at g1;cases g1
  have:=okL_core_one (okS_at hok h1) g2 h2 g3
  subst this
  rw[h2] at g2;cases g2
  rw[hx2,g4]
theorem apL_none {c:Int} {i:Nat} {l:List Pc} (h:∀ (k:Nat) (y:Pc),l[k]? = some y→y.co≠c):∀ m,m≤l.length→apL c i l m = []
 | 0,_=>rfl
 | m+1,hm=>by
  have hx:l[m]? = some (l[m]'(by omega)):=List.getElem?_eq_getElem (by omega)
  rw[apL_next hx,apL_none h m (by omega),if_neg (h _ _ hx)];rfl
theorem apL_one {c:Int} {i k:Nat} {l:List Pc} {y:Pc} (hy:l[k]? = some y) (hc:y.co=c) (h:∀ (k':Nat) (z:Pc),l[k']? = some z→z.co=c→k'=k):∀ m,m≤l.length→apL c i l m=if k<m then [⟨y,i,k⟩] else []
 | 0,_=>by rw[if_neg (by omega)];rfl
 | m+1,hm=>by
  have hx:l[m]? = some (l[m]'(by omega)):=List.getElem?_eq_getElem (by omega)
  rw[apL_next hx,apL_one hy hc h m (by omega)]
  by_cases e:l[m].co=c
  ·have:=h _ _ hx e
   subst this
   have e9:y=l[m]:=Option.some.inj (hy.symm.trans hx)
   rw[if_neg (by omega),if_pos e,if_pos (by omega),e9];rfl
  ·rw[if_neg e,List.append_nil]
   have:m≠k:=fun e2=>by subst e2;exact e (by rw[Option.some.inj (hx.symm.trans hy)];exact hc)
   by_cases e3:k<m
   ·rw[if_pos e3,if_pos (by omega)]
   ·rw[if_neg e3,if_neg (by omega)]
theorem on_ap {s:Sys} {L:List (List Pc)} (hr:right s=true) (hL:L.length=s.ts.length) (hok:okS s L L.length=true) (c:Int):∀ n,n≤L.length→onN (mpF (vis (wrp (s.la-1)) L)) c n=(apN c L n).map (fun y=>zpP (ptOf s L y))
 | 0,_=>rfl
 | n+1,hn=>by
  have hl:L[n]? = some (L[n]'(by omega)):=List.getElem?_eq_getElem (by omega)
  rw[onN,on_ap hr hL hok c n (by omega),apN_next hl,List.map_append]
  congr 1
  cases e:mpF (vis (wrp (s.la-1)) L) c (n:Int)with
  | none =>
   rw[apL_none (fun k y hy hc=>by
    have:=(mpF_at hr hL hok (c:=c) (i:=n) (x:=zpP (ptOf s L ⟨y,n,k⟩))).2 ⟨_,k,y,hl,hy,hc,rfl⟩
    rw[e] at this;cases this) _ (Nat.le_refl _)]
   rfl
  | some x =>
   obtain⟨l,k,y,h1,h2,h3,h4⟩:=(mpF_at hr hL hok).1 e
   rw[hl] at h1;cases h1
   rw[apL_one h2 h3 (fun k' z hz hc=>okL_core_one (okS_at hok hl) hz h2 (by rw[hc,h3])) _ (Nat.le_refl _),if_pos (List.getElem?_eq_some_iff.1 h2).1,h4]
   rfl
end Go.Proofs.YtjfaiaipojfhgaaGreat.pln
end
section
namespace Go.Proofs.YtjfaiaipojfhgaaGreat.pln
set_option linter.unusedVariables false
set_option linter.unusedSimpArgs false
open Go.ChangeShapes Go.WideShapes Go.ChangeAt Go.RowKit Go.Deep val
theorem tL_ap (c:Int) (i:Nat) (l:List Pc):∀ k,tL c l k=(((apL c i l k).countP fun y=>y.p.ti:Nat):Int)
 | 0=>rfl
 | k+1=>by
  rw[tL,tL_ap c i l k,apL,List.countP_append]
  by_cases hc:(l.getD k pc0).co=c
  ·cases ht:(l.getD k pc0).ti with
   | true =>
    rw[if_pos ⟨rfl,hc⟩,if_pos hc,List.countP_cons_of_pos (by exact ht)];simp
   | false =>
    rw[if_neg (by simp),if_pos hc,List.countP_cons_of_neg (by show ¬(l.getD k pc0).ti=true;rw[ht];simp)];simp
  ·rw[if_neg (fun h=>hc h.2),if_neg hc];simp
theorem tN_ap (c:Int) (L:List (List Pc)):∀ n,tN L c n=(((apN c L n).countP fun y=>y.p.ti:Nat):Int)
 | 0=>rfl
 | n+1=>by rw[tN,tN_ap c L n,tL_ap c n,apN,List.countP_append];simp
theorem uL_ap (c:Int) (i:Nat) (l:List Pc) (g:Nat→Bool):∀ k,(((apL c i l k).countP fun y=>g y.i:Nat):Int)=if g i=true then uL c l k else 0
 | 0=>by simp[apL,uL]
 | k+1=>by
  rw[apL,List.countP_append,uL]
  have ih:=uL_ap c i l g k
  by_cases hc:(l.getD k pc0).co=c
  ·rw[if_pos hc,if_pos hc]
   cases hg:g i with
   | true=>rw[hg,if_pos rfl] at ih;rw[List.countP_cons_of_pos (by exact hg)];simp;omega
   | false=>rw[hg] at ih;rw[List.countP_cons_of_neg (by simp[hg])];simpa using ih
  ·rw[if_neg hc,if_neg hc]
   simpa using ih
theorem uN_ap (s:Sys) (c:Int) (L:List (List Pc)):∀ n,uN s L c n=(((apN c L n).countP fun y=>decide (0<(s.ts.getD y.i ts0).secs.length):Nat):Int)
 | 0=>rfl
 | n+1=>by
  rw[uN,uN_ap s c L n,apN,List.countP_append,Int.natCast_add,uL_ap c n (L.getD n []) (fun i=>decide (0<(s.ts.getD i ts0).secs.length))]
  simp only[decide_eq_true_eq]
theorem fits_is {s:Sys} {L:List (List Pc)} (hr:right s=true) (hL:L.length=s.ts.length) (hok:okS s L L.length=true) (c:Nat):fitsV s (onN (mpF (vis (wrp (s.la-1)) L)) (c:Int) s.ts.length) = !(decide (1<tN L (c:Int) L.length) || (decide (tN L (c:Int) L.length=1) && decide (0<uN s L (c:Int) L.length))):=by
 rw[←hL,on_ap hr hL hok _ _ (Nat.le_refl _),tN_ap,uN_ap]
 unfold fitsV tiC shC
 rw[List.countP_map,List.countP_map]
 have e1:((fun x:Pt=>x.p.ti) ∘ fun y=>zpP (ptOf s L y))=fun y=>y.p.ti:=rfl
 have e2:(shB s ∘ fun y=>zpP (ptOf s L y))=fun y=>decide (0<(s.ts.getD y.i ts0).secs.length):=rfl
 rw[e1,e2]
 generalize (apN (c:Int) L L.length).countP (fun y=>y.p.ti)=T
 generalize (apN (c:Int) L L.length).countP (fun y=>decide (0<(s.ts.getD y.i ts0).secs.length))=U
 rw[Bool.eq_iff_iff]
 simp only[Bool.or_eq_true,Bool.and_eq_true,decide_eq_true_eq,Bool.not_eq_true',Bool.or_eq_false_iff,Bool.and_eq_false_iff,decide_eq_false_iff_not]
 omega
theorem ft_is {s:Sys} {L:List (List Pc)} (hr:right s=true) (hL:L.length=s.ts.length) (hok:okS s L L.length=true):∀ c,ftN s (mpF (vis (wrp (s.la-1)) L)) s.ts.length c=okC s L c
 | 0=>rfl
 | c+1=>by rw[ftN,okC,ft_is hr hL hok c,fits_is hr hL hok c]
theorem lyB_is (s:Sys) (L:List (List Pc)):lyB s L=plR s L:=by
 unfold lyB plR
 cases hr:right s with
 | false=>rfl
 | true =>
  by_cases hL:L.length=s.ts.length
  ·rw[vOk_iff hr hL]
   cases hok:okS s L L.length with
   | false=>simp
   | true=>rw[ft_is hr hL hok]
  ·rw[decide_eq_false hL];simp
def rkA (s:Sys) (L:List (List Pc)) (y:Ap):Ap:=⟨rkP s L y.i y.p,y.i,y.k⟩
theorem apL_map {s:Sys} {L:List (List Pc)} {c:Int} {i:Nat} {l:List Pc}:∀ k,k≤l.length→apL c i (rkL s L i l) k=(apL c i l k).map (rkA s L)
 | 0,_=>rfl
 | k+1,hk=>by
  have hx:l[k]? = some (l[k]'(by omega)):=List.getElem?_eq_getElem (by omega)
  have hx2:(rkL s L i l)[k]? = some (rkP s L i (l[k]'(by omega))):=by unfold rkL;rw[List.getElem?_map,hx];rfl
  rw[apL_next hx,apL_next hx2,apL_map k (by omega),List.map_append]
  by_cases hc:l[k].co=c
  ·rw[if_pos hc,if_pos (show (rkP s L i l[k]).co=c from hc)];rfl
  ·rw[if_neg hc,if_neg (show ¬(rkP s L i l[k]).co=c from hc)];rfl
theorem apN_rk (s:Sys) (L:List (List Pc)) (c:Int):∀ n,n≤L.length→apN c (rkV s L) n=(apN c L n).map (rkA s L)
 | 0,_=>rfl
 | n+1,hn=>by
  have hl:L[n]? = some (L[n]'(by omega)):=List.getElem?_eq_getElem (by omega)
  have hlen:(rkL s L n L[n]).length=L[n].length:=by unfold rkL;rw[List.length_map]
  rw[apN_next hl,apN_next (rkV_at (s:=s) hl),apN_rk s L c n (by omega),List.map_append,hlen,apL_map _ (Nat.le_refl _)]
theorem apS_rk (s:Sys) (L:List (List Pc)) (c:Int):apS c (rkV s L)=(apS c L).map (rkA s L):=by
 unfold apS;rw[rkV_len];exact apN_rk s L c _ (Nat.le_refl _)
theorem apL_fp (c:Int) (i:Nat) (l:List Pc):∀ k,(apL c i l k).map (fun y=>(y.i,y.p))=(fpL i l k).filter (fun z=>decide (z.2.co=c))
 | 0=>rfl
 | k+1=>by
  rw[apL,fpL,List.map_append,List.filter_append,apL_fp c i l k]
  by_cases hc:(l.getD k pc0).co=c
  ·rw[if_pos hc,List.filter_cons_of_pos (by simpa using hc)];rfl
  ·rw[if_neg hc,List.filter_cons_of_neg (by simpa using hc)];rfl
theorem apN_fp (c:Int) (L:List (List Pc)):∀ n,(apN c L n).map (fun y=>(y.i,y.p))=(fpN L n).filter (fun z=>decide (z.2.co=c))
 | 0=>rfl
 | n+1=>by rw[apN,fpN,List.map_append,List.filter_append,apN_fp c L n,apL_fp]
theorem ahead_count {s:Sys} {L:List (List Pc)} (h:plR s L=true) {c:Int} {y:Ap} (hy:y ∈ apS c L):aheadV (y.i:Int) (zp y.p) L=(((apS c L).countP fun z=>!z.p.ti && decide (z.p.de<y.p.de∨z.p.de=y.p.de∧z.i<y.i):Nat):Int):=by
 obtain⟨_,_,hok⟩:=plR_parts h
 obtain⟨l,h1,h2,h3⟩:=apS_mem hy
 rw[ahead_zp]
 unfold aheadV
 rw[aN_count]
 have e:(apS c L).countP (fun z=>!z.p.ti && decide (z.p.de<y.p.de∨z.p.de=y.p.de∧z.i<y.i))=((apS c L).map (fun y=>(y.i,y.p))).countP (fun z=>!z.2.ti && decide (z.2.de<y.p.de∨z.2.de=y.p.de∧z.1<y.i)):=by
  rw[List.countP_map];rfl
 rw[e]
 unfold apS
 rw[apN_fp,List.countP_filter]
 congr 1
 apply List.countP_congr
 intro z hz
 obtain⟨_,lz,j,g1,g2⟩:=(fpN_mem (Nat.le_refl _)).1 hz
 rw[aC_iff]
 simp only[Bool.and_eq_true,Bool.not_eq_true',decide_eq_true_eq]
 unfold Bf
 constructor
 ·rintro⟨a1,a2,a3,a4⟩
  exact⟨⟨a2,a4⟩,by rw[a1,h3]⟩
 ·rintro⟨⟨a1,a2⟩,a3⟩
  refine⟨by rw[a3,h3],a1,fun e=>?_,a2⟩
  rw[e,h1] at g1
  cases g1
  have:=okL_core_one (okS_at hok h1) g2 h2 (by rw[a3,h3])
  rw[this] at g2
  have e9:z.2=y.p:=Option.some.inj (g2.symm.trans h2)
  rw[e9,e] at a2
  omega
theorem ly_on {s:Sys} {L:List (List Pc)} (h:plR s L=true) {c:Nat} (hc:c<s.co.toNat):onN (lyF s L) (c:Int) s.ts.length=(apS (c:Int) (rkV s L)).map (ptOf s L):=by
 obtain⟨hr,hL,hok⟩:=plR_parts h
 have h0:onN (mpF (vis (wrp (s.la-1)) L)) (c:Int) s.ts.length=(apS (c:Int) L).map (fun y=>zpP (ptOf s L y)):=by
  rw[←hL];exact on_ap hr hL hok _ _ (Nat.le_refl _)
 rw[apS_rk,List.map_map]
 unfold lyF
 by_cases hpo:s.po=1
 ·rw[if_pos hpo]
  have h1:=onN_map (F:=mpF (vis (wrp (s.la-1)) L)) (G:=rkM (mpF (vis (wrp (s.la-1)) L)) s.ts.length s.co.toNat) (co:=(c:Int)) (g:=rkO (mpF (vis (wrp (s.la-1)) L)) s.ts.length (c:Int)) (fun i=>by unfold rkM;rw[if_pos (by omega)]) s.ts.length
  rw[h1,h0,List.map_map]
  apply List.map_congr_left
  intro y hy
  show rkO _ _ _ (zpP (ptOf s L y))=ptOf s L (rkA s L y)
  unfold rkO
  have ht:(zpP (ptOf s L y)).p.ti=y.p.ti:=rfl
  rw[ht]
  cases hti:y.p.ti with
  | true =>
   rw[if_pos rfl]
   unfold rkA rkP
   rw[hti]
   unfold zpP zp ptOf
   simp[hti]
  | false =>
   rw[if_neg (by simp)]
   have hcnt:(ntL (mpF (vis (wrp (s.la-1)) L)) (c:Int) s.ts.length).countP (fun z=>decide (z.p.de<(zpP (ptOf s L y)).p.de∨z.p.de=(zpP (ptOf s L y)).p.de∧z.i<(zpP (ptOf s L y)).i))=(apS (c:Int) L).countP (fun z=>!z.p.ti && decide (z.p.de<y.p.de∨z.p.de=y.p.de∧z.i<y.i)):=by
    unfold ntL
    rw[h0,List.countP_filter,List.countP_map]
    apply List.countP_congr
    intro z _
    show ((decide (z.p.de<y.p.de∨z.p.de=y.p.de∧z.i<y.i)) && !z.p.ti)=true ↔ _
    rw[Bool.and_comm]
   rw[hcnt,←ahead_count h hy]
   unfold rkA rkP spP zpP ptOf
   dsimp only
   rw[if_pos ⟨hpo,hti⟩]
   unfold zp
   dsimp only
   rw[hti,Int.add_comm]
 ·rw[if_neg hpo,h0]
  apply List.map_congr_left
  intro y hy
  show zpP (ptOf s L y)=ptOf s L (rkA s L y)
  unfold rkA rkP zpP zp ptOf
  dsimp only
  rw[if_neg (fun e=>hpo e.1)]
theorem mpW_at {P:List Pt} {j:Nat} {v:Int} (h:∀ x ∈ P,whB x=true→x.i=j→x.p.co=v):(mpW P j=v∧∃ x ∈ P,whB x=true∧x.i=j)∨(mpW P j = -1∧∀ x ∈ P,¬(whB x=true∧x.i=j)):=by
 have key:∀ (n:Nat) (P:List Pt),P.length=n→(∀ x ∈ P,whB x=true→x.i=j→x.p.co=v)→(mpW P j=v∧∃ x ∈ P,whB x=true∧x.i=j)∨(mpW P j = -1∧∀ x ∈ P,¬(whB x=true∧x.i=j)):=by
  intro n
  induction n with
  | zero =>
      intro P hP _
      obtain rfl:P = []:=List.eq_nil_of_length_eq_zero hP
      exact .inr ⟨rfl,by simp⟩
  | succ n ih =>
   intro P hP h
   obtain⟨R,z,rfl⟩:∃ R z,P=R ++ [z]:=⟨P.dropLast,P.getLast (by intro e;rw[e] at hP;cases hP),(List.dropLast_concat_getLast _).symm⟩
   have e:mpW (R ++ [z]) j=if whB z=true∧j=z.i then z.p.co else mpW R j:=by rw[mpW_snoc]
   rw[e]
   by_cases hz:whB z=true∧j=z.i
   ·rw[if_pos hz]
    exact .inl ⟨h z (by simp) hz.1 hz.2.symm,z,by simp,hz.1,hz.2.symm⟩
   ·rw[if_neg hz]
    rcases ih R (by simp at hP;omega) (fun x hx=>h x (by simp[hx]))with⟨h1,x,h2,h3⟩ | ⟨h1,h2⟩
    ·exact .inl ⟨h1,x,by simp[h2],h3⟩
    ·refine .inr ⟨h1,fun x hx hh=>?_⟩
     rcases List.mem_append.1 hx with hx | hx
     ·exact h2 x hx hh
     ·rw[List.mem_singleton] at hx;subst hx;exact hz ⟨hh.1,hh.2.symm⟩
 exact key P.length P rfl h
theorem lyW_at {s:Sys} {L:List (List Pc)} {j:Nat} {l:List Pc} (hl:L[j]? = some l):lyW s L j=whO l:=by
 unfold lyW
 have hw:∀ x ∈ vis (wrp (s.la-1)) L,whB x=true→x.i=j→x.p.co=whO l∧(l.length=1∧(l.getD 0 pc0).ti=false):=fun x hx hb hi=>by
  obtain⟨i,l',k,y,h1,h2,rfl⟩:=vis_mem hx
  have hij:i=j:=hi
  subst hij
  rw[hl] at h1;cases h1
  unfold whB mkP at hb
  simp only[Bool.and_eq_true,decide_eq_true_eq,Bool.not_eq_true'] at hb
  obtain⟨b1,b2,b3⟩:=hb
  subst b1
  have h0:l.getD 0 pc0=y:=by simp[List.getD,h2]
  have h4:l.length=1∧(l.getD 0 pc0).ti=false:=⟨b2.symm,by rw[h0];exact b3⟩
  refine⟨?_,h4⟩
  unfold whO
  rw[if_pos h4,h0]
  rfl
 rcases mpW_at (v:=whO l) (fun x hx hb hi=>(hw x hx hb hi).1)with⟨h1,_⟩ | ⟨h1,h2⟩
 ·exact h1
 ·rw[h1]
  unfold whO
  split
  ·next h3 =>
   exfalso
   have hx:l[0]? = some (l[0]'(by omega)):=List.getElem?_eq_getElem (by omega)
   refine h2 (mkP (wrp (s.la-1)) j l 0 l[0]) (List.mem_of_getElem? (vis_at hl hx)) ⟨?_,rfl⟩
   have h0:l.getD 0 pc0=l[0]'(by omega):=by simp[List.getD,hx]
   unfold whB mkP
   rw[h0] at h3
   simp[h3.1,h3.2]
  ·rfl
theorem lyW_is {s:Sys} {L:List (List Pc)} (hL:L.length=s.ts.length):(List.range s.ts.length).map (lyW s L)=L.map whO:=by
 apply List.ext_getElem?
 intro j
 rw[List.getElem?_map,List.getElem?_map]
 by_cases hj:j<L.length
 ·have hl:L[j]? = some (L[j]'hj):=List.getElem?_eq_getElem hj
  rw[List.getElem?_range (by omega),hl]
  simp[lyW_at (s:=s) hl]
 ·rw[List.getElem?_eq_none (l:=List.range _) (by simp;omega),List.getElem?_eq_none (by omega)];rfl
end Go.Proofs.YtjfaiaipojfhgaaGreat.pln
end
