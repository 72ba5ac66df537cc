/- Part 15 of a proof: DeM DeP DeQ DeL DeS. -/
import Derived.Test.YtlecikdjoekknaaGreatM05
set_option maxRecDepth 100000
set_option maxHeartbeats 16000000
set_option linter.unusedVariables false
set_option linter.unusedSimpArgs false
section
namespace Go.Proofs.YtlecikdjoekknaaGreat.dem
structure Wk where
 w:Int
 p:Int
 d:Int
 top:Bool
def wk0 : Wk:=⟨0,0,0,false⟩
instance : Inhabited Wk:=⟨wk0⟩
def inT (a b:Int):Bool:=decide (a<=b) && decide (b<=1099511627776)
theorem inT_true {a b:Int}:inT a b=true ↔ a<=b/\b<=1099511627776:=by unfold inT;simp
theorem inT_false {a b:Int}:inT a b=false ↔ b<a\/1099511627776<b:=by
 unfold inT
 rw[Bool.and_eq_false_iff,decide_eq_false_iff_not,decide_eq_false_iff_not];omega
def okW (x:Wk):Bool:=inT 0 x.w && (inT 1 x.p && inT 1 x.d)
def right (l:List Wk) (bl rl:Int):Bool:=decide (l.length<=72) && (inT 0 bl && (inT 0 rl && l.all okW))
theorem okW_iff {x:Wk}:okW x=true ↔ (0<=x.w/\x.w<=1099511627776)/\(1<=x.p/\x.p<=1099511627776)/\1<=x.d/\x.d<=1099511627776:=by
 unfold okW;simp only[Bool.and_eq_true,inT_true]
theorem right_iff {l:List Wk} {bl rl:Int}:right l bl rl=true ↔ l.length<=72/\(0<=bl/\bl<=1099511627776)/\(0<=rl/\rl<=1099511627776)/\∀ x ∈ l,okW x=true:=by
 unfold right;simp only[Bool.and_eq_true,inT_true,decide_eq_true_eq,List.all_eq_true]
def up (n d:Int):Int:=n/d+if 0<n % d then 1 else 0
theorem up_bd {n d:Int} (hn:1<=n) (hd:1<=d):1<=up n d/\up n d<=n:=by
 unfold up
 have h1:=Int.emod_add_mul_ediv n d
 have h2:=Int.emod_nonneg n (show d≠0 by omega)
 have h3:=Int.emod_lt_of_pos n (show 0<d by omega)
 have hq:0<=n/d:=Int.ediv_nonneg (by omega) (by omega)
 have hle:n/d<=d*(n/d):=by
  have:=Int.mul_le_mul_of_nonneg_right hd hq
  omega
 constructor
 ·split
  ·omega
  ·have h0:n % d=0:=by omega
   rcases(show n/d=0\/1<=n/d by omega)with e | e
   ·rw[e,h0] at h1;simp at h1;omega
   ·omega
 ·split <;> omega
theorem up_mono {m n d:Int} (_:1<=m) (hmn:m<=n) (hd:1<=d):up m d<=up n d:=by
 unfold up
 have h1:=Int.emod_add_mul_ediv n d
 have h2:=Int.emod_nonneg n (show d≠0 by omega)
 have h3:=Int.emod_lt_of_pos n (show 0<d by omega)
 have k1:=Int.emod_add_mul_ediv m d
 have k2:=Int.emod_nonneg m (show d≠0 by omega)
 have k3:=Int.emod_lt_of_pos m (show 0<d by omega)
 have hle:m/d<=n/d:=Int.ediv_le_ediv (by omega) hmn
 rcases(show m/d=n/d\/m/d+1<=n/d by omega)with e | e
 ·rw[e] at k1 ⊢
  split <;> split <;> omega
 ·split <;> split <;> omega
theorem div_mono {m n d:Int} (hmn:m<=n) (hd:1<=d):m/d<=n/d:=Int.ediv_le_ediv (by omega) hmn
theorem div_up {t e d:Int} (he:1<=e) (ht:e<=t) (hd:1<=d):0<=(t-e)/d/\(t-e)/d<=up t d:=by
 refine⟨Int.ediv_nonneg (by omega) (by omega),?_⟩
 have h:=div_mono (m:=t-e) (n:=t) (d:=d) (by omega) hd
 unfold up
 split <;> omega
def fst (t:Int) (x:Wk):Int:=if x.top=true then (up t x.p+1)*x.w else if x.d<=t then ((t-x.d)/x.p+1)*x.w else 0
def trm (rl t:Int) (x:Wk):Int:=fst t x+(up t x.p+2)*rl
def cmt (rl t:Int) (x:Wk):Int:=(up t x.p+1)*x.w+(up t x.p+2)*rl
theorem fst_bd {t:Int} {x:Wk} (ht:1<=t) (hx:okW x=true):0<=fst t x/\fst t x<=(up t x.p+1)*x.w:=by
 obtain⟨⟨w0,_⟩,⟨p0,_⟩,d0,_⟩:=okW_iff.1 hx
 have hu:=up_bd ht p0
 have h1:0<=(up t x.p+1)*x.w:=Int.mul_nonneg (by omega) w0
 unfold fst
 split
 ·exact⟨h1,Int.le_refl _⟩
 ·split
  ·rename_i hd
   have hdu:=div_up d0 hd p0
   exact⟨Int.mul_nonneg (by omega) w0,Int.mul_le_mul_of_nonneg_right (by omega) w0⟩
  ·exact⟨Int.le_refl 0,h1⟩
theorem snd_bd {t rl:Int} {x:Wk} (ht:1<=t) (hr:0<=rl) (hx:okW x=true):0<=(up t x.p+2)*rl:=by
 obtain⟨_,⟨p0,_⟩,_⟩:=okW_iff.1 hx
 have hu:=up_bd ht p0
 exact Int.mul_nonneg (by omega) hr
theorem trm_bd {t rl:Int} {x:Wk} (ht:1<=t) (hr:0<=rl) (hx:okW x=true):0<=trm rl t x/\trm rl t x<=cmt rl t x:=by
 have:=fst_bd ht hx
 have:=snd_bd ht hr hx
 unfold trm cmt
 omega
def sN (bl:Int) (f:Wk->Int) (l:List Wk):Nat->Int
 | 0=>bl
 | i+1=>sN bl f l i+f (l.getD i wk0)
theorem getD_some {l:List Wk} {i:Nat} {x:Wk} (h:l[i]? = some x):l.getD i wk0=x:=by simp[List.getD,h]
theorem sN_succ {bl:Int} {f:Wk->Int} {l:List Wk} {i:Nat} {x:Wk} (h:l[i]? = some x):sN bl f l (i+1)=sN bl f l i+f x:=by rw[sN,getD_some h]
def ov (bl:Int) (f:Wk->Int) (t:Int) (l:List Wk) (i:Nat):Bool:=decide (9223372036854775807<sN bl f l i) || (l.take i).any (λ x=>decide (9223372036854775807<up t x.p+2))
theorem ov_iff {bl:Int} {f:Wk->Int} {t:Int} {l:List Wk} {i:Nat}:ov bl f t l i=true ↔ 9223372036854775807<sN bl f l i\/∃ j x,j<i/\l[j]? = some x/\9223372036854775807<up t x.p+2:=by
 unfold ov
 rw[Bool.or_eq_true,decide_eq_true_eq,List.any_eq_true]
 constructor
 ·rintro(h | ⟨x,hx,h⟩)
  ·exact .inl h
  ·obtain⟨j,hj,e⟩:=List.mem_iff_getElem?.1 hx |>.imp λ j h=>(⟨by
    have:=(List.getElem?_eq_some_iff.1 h).1;rw[List.length_take] at this;omega,h⟩:j<i/\(l.take i)[j]? = some x)
   rw[List.getElem?_take,if_pos hj] at e
   exact .inr ⟨j,x,hj,e,by simpa using h⟩
 ·rintro(h | ⟨j,x,hj,hx,h⟩)
  ·exact .inl h
  ·refine .inr ⟨x,List.mem_iff_getElem?.2 ⟨j,?_⟩,by simpa using h⟩
   rw[List.getElem?_take,if_pos hj];exact hx
theorem sN_mono {bl:Int} {f:Wk->Int} {l:List Wk} (hf:∀ x ∈ l,0<=f x) {i j:Nat} (hij:i<=j) (hj:j<=l.length):sN bl f l i<=sN bl f l j:=by
 induction j with
 | zero =>
     obtain rfl:i=0:=by omega
     exact Int.le_refl _
 | succ j ih =>
  by_cases e:i=j+1
  ·rw[e];exact Int.le_refl _
  ·have h:=ih (by omega) (by omega)
   have hx:l[j]? = some l[j]:=List.getElem?_eq_getElem (by omega)
   rw[sN_succ hx]
   have:=hf _ (List.mem_of_getElem? hx)
   omega
theorem sN_pos {bl:Int} {f:Wk->Int} {l:List Wk} (hb:0<=bl) (hf:∀ x ∈ l,0<=f x) {i:Nat} (hi:i<=l.length):0<=sN bl f l i:=by
 have:=sN_mono (bl:=bl) hf (Nat.zero_le i) hi
 rw[sN] at this;omega
theorem ov_mono {bl:Int} {f:Wk->Int} {t:Int} {l:List Wk} (hf:∀ x ∈ l,0<=f x) {i j:Nat} (hij:i<=j) (hj:j<=l.length) (h:ov bl f t l i=true):ov bl f t l j=true:=by
 rcases ov_iff.1 h with h | ⟨q,x,hq,hx,h⟩
 ·have:=sN_mono (bl:=bl) hf hij hj
  exact ov_iff.2 (.inl (by omega))
 ·exact ov_iff.2 (.inr ⟨q,x,by omega,hx,h⟩)
theorem ov_zero {bl:Int} {f:Wk->Int} {t:Int} {l:List Wk} (hb:bl<=9223372036854775807):ov bl f t l 0=false:=by
 cases h:ov bl f t l 0 with
 | false=>rfl
 | true =>
  rcases ov_iff.1 h with h | ⟨j,_,hj,_⟩
  ·rw[sN] at h;omega
  ·omega
theorem ov_not {bl:Int} {f:Wk->Int} {t:Int} {l:List Wk} {i:Nat} (h:ov bl f t l i=false):sN bl f l i<=9223372036854775807/\∀ j x,j<i->l[j]? = some x->up t x.p+2<=9223372036854775807:=by
 refine⟨?_,λ j x hj hx=>?_⟩
 ·by_cases e:sN bl f l i<=9223372036854775807
  ·exact e
  ·rw[ov_iff.2 (.inl (by omega))] at h;cases h
 ·by_cases e:up t x.p+2<=9223372036854775807
  ·exact e
  ·rw[ov_iff.2 (.inr ⟨j,x,hj,hx,by omega⟩)] at h;cases h
def askO (l:List Wk) (bl rl t:Int):Bool:=ov bl (trm rl t) t l l.length
def askS (l:List Wk) (bl rl t:Int):Int:=sN bl (trm rl t) l l.length
def askE (l:List Wk) (bl rl t:Int):Int:=if right l bl rl=true/\1<=t then (if askO l bl rl t=true then 2 else 0) else 1
def askV (l:List Wk) (bl rl t:Int):Int:=if askE l bl rl t=0 then askS l bl rl t else 0
def comO (l:List Wk) (bl rl n:Int):Bool:=ov bl (cmt rl n) n l l.length
def comS (l:List Wk) (bl rl n:Int):Int:=sN bl (cmt rl n) l l.length
def ldS (rl:Int) (l:List Wk):Int:=sN 0 (λ x=>qar.tm x.w x.p+qar.tm rl x.p) l l.length
def busyGo (l:List Wk) (bl rl:Int):Nat->Int->Int × Int
 | 0,_=>(0,11)
 | k+1,n=>if comO l bl rl n=true then (0,2) else if comS l bl rl n<=n then (n,0) else busyGo l bl rl k (comS l bl rl n)
def busyP (l:List Wk) (bl rl:Int):Int × Int:=if right l bl rl=true then (if 4294967296<ldS rl l then (0,12) else busyGo l bl rl 5000 1) else (0,1)
def lsN (l:List Wk):Nat->Int
 | 0=>0
 | i+1=>if (l.getD i wk0).top=false/\(lsN l i=0\/(l.getD i wk0).d<lsN l i) then (l.getD i wk0).d else lsN l i
def least (l:List Wk):Int:=lsN l l.length
def testGo (l:List Wk) (bl rl ls:Int):Nat->Int->Int
 | 0,_=>11
 | k+1,t=>if t<ls then 0 else if askE l bl rl t≠0 then askE l bl rl t else if t<askV l bl rl t then 12 else if askV l bl rl t<t then testGo l bl rl ls k (askV l bl rl t) else testGo l bl rl ls k (t-1)
def testV (l:List Wk) (bl rl:Int):Int:=if right l bl rl=true then (if least l=0 then 0 else if (busyP l bl rl).2≠0 then (busyP l bl rl).2 else testGo l bl rl (least l) 5000 (busyP l bl rl).1) else 1
theorem trm_all {l:List Wk} {bl rl t:Int} (h:right l bl rl=true) (ht:1<=t):∀ x ∈ l,0<=trm rl t x:=λ x hx=>(trm_bd ht (right_iff.1 h).2.2.1.1 ((right_iff.1 h).2.2.2 x hx)).1
theorem ask_cases (l:List Wk) (bl rl t:Int):(askE l bl rl t=1/\askV l bl rl t=0/\¬(right l bl rl=true/\1<=t))\/(right l bl rl=true/\1<=t/\askO l bl rl t=true/\askE l bl rl t=2/\askV l bl rl t=0)\/(right l bl rl=true/\1<=t/\askO l bl rl t=false/\askE l bl rl t=0/\askV l bl rl t=askS l bl rl t):=by
 unfold askV askE
 by_cases h:right l bl rl=true/\1<=t
 ·rw[if_pos h]
  cases ho:askO l bl rl t with
  | true=>exact .inr (.inl ⟨h.1,h.2,rfl,by simp,by simp⟩)
  | false=>exact .inr (.inr ⟨h.1,h.2,rfl,by simp,by simp⟩)
 ·rw[if_neg h]
  exact .inl ⟨rfl,by simp,h⟩
theorem test_ok {l:List Wk} {bl rl:Int} (h:testV l bl rl=0):right l bl rl=true/\(least l=0\/((busyP l bl rl).2=0/\testGo l bl rl (least l) 5000 (busyP l bl rl).1=0)):=by
 unfold testV at h
 cases hr:right l bl rl with
 | false=>rw[hr,if_neg (by simp)] at h;cases h
 | true =>
  rw[hr,if_pos rfl] at h
  refine⟨rfl,?_⟩
  by_cases h0:least l=0
  ·exact .inl h0
  ·rw[if_neg h0] at h
   by_cases h1:(busyP l bl rl).2=0
   ·rw[if_neg (by omega)] at h;exact .inr ⟨h1,h⟩
   ·rw[if_pos h1] at h;exact absurd h h1
structure Less (l l':List Wk) (bl bl' rl:Int):Prop where
 right:right l' bl' rl=true
 ask:∀ m,1<=m->askS l' bl' rl m<=askS l bl rl m
 com:∀ m,1<=m->comS l' bl' rl m<=comS l bl rl m
 fac:∀ x ∈ l',∃ y ∈ l,y.p=x.p
 ld:ldS rl l'<=ldS rl l
 least:least l'=0\/(least l≠0/\least l<=least l')
def sL (f:Wk->Int):List Wk->Int
 | []=>0
 | x :: l=>f x+sL f l
theorem sL_app (f:Wk->Int) (a b:List Wk):sL f (a ++ b)=sL f a+sL f b:=by
 induction a with
 | nil=>simp[sL]
 | cons x a ih=>rw[List.cons_append,sL,sL,ih];omega
theorem sN_take (bl:Int) (f:Wk->Int) (l:List Wk) {i:Nat} (hi:i<=l.length):sN bl f l i=bl+sL f (l.take i):=by
 induction i with
 | zero=>simp[sN,sL]
 | succ i ih =>
  have hx:l[i]? = some l[i]:=List.getElem?_eq_getElem (by omega)
  rw[sN_succ hx,ih (by omega),List.take_add_one,hx,sL_app]
  simp[sL];omega
theorem sN_all (bl:Int) (f:Wk->Int) (l:List Wk):sN bl f l l.length=bl+sL f l:=by
 rw[sN_take bl f l (Nat.le_refl _),List.take_length]
theorem sL_le {f g:Wk->Int} {l:List Wk} (h:∀ x ∈ l,f x<=g x):sL f l<=sL g l:=by
 induction l with
 | nil=>exact Int.le_refl 0
 | cons x l ih =>
  rw[sL,sL]
  have:=h x (by simp)
  have:=ih (λ y hy=>h y (by simp[hy]))
  omega
theorem sL_pos {f:Wk->Int} {l:List Wk} (h:∀ x ∈ l,0<=f x):0<=sL f l:=by
 induction l with
 | nil=>exact Int.le_refl 0
 | cons x l ih =>
  rw[sL]
  have:=h x (by simp)
  have:=ih (λ y hy=>h y (by simp[hy]))
  omega
theorem lsN_char {l:List Wk} (hd:∀ x ∈ l,1<=x.d) {i:Nat} (hi:i<=l.length):(lsN l i=0/\∀ j x,j<i->l[j]? = some x->x.top=true)\/(1<=lsN l i/\(∃ j x,j<i/\l[j]? = some x/\x.top=false/\x.d=lsN l i)/\∀ j x,j<i->l[j]? = some x->x.top=false->lsN l i<=x.d):=by
 induction i with
 | zero=>exact .inl ⟨rfl,λ j _ hj=>absurd hj (by omega)⟩
 | succ i ih =>
  have hx:l[i]? = some l[i]:=List.getElem?_eq_getElem (by omega)
  have hdx:=hd _ (List.mem_of_getElem? hx)
  have old:∀ {j:Nat} {y:Wk},j<i+1->l[j]? = some y->j<i\/(j=i/\y=l[i]):=λ {j y} hj hy=>by
   by_cases e:j=i
   ·subst e;rw[hx] at hy;cases hy;exact .inr ⟨rfl,rfl⟩
   ·exact .inl (by omega)
  rw[lsN,getD_some hx]
  generalize l[i]=x at hx hdx old
  rcases ih (by omega)with⟨e,ha⟩ | ⟨e,⟨j,y,hj,hy,ht,hyd⟩,ha⟩
  ·rw[e]
   cases htop:x.top with
   | true =>
    rw[if_neg (λ h=>by simp at h)]
    refine .inl ⟨rfl,λ j y hj hy=>?_⟩
    rcases old hj hy with h | ⟨_,rfl⟩
    ·exact ha j y h hy
    ·exact htop
   | false =>
    rw[if_pos ⟨rfl,.inl rfl⟩]
    refine .inr ⟨hdx,⟨i,x,by omega,hx,htop,rfl⟩,λ j y hj hy ht=>?_⟩
    rcases old hj hy with h | ⟨_,rfl⟩
    ·rw[ha j y h hy] at ht;cases ht
    ·exact Int.le_refl _
  ·by_cases hc:x.top=false/\(lsN l i=0\/x.d<lsN l i)
   ·rw[if_pos hc]
    refine .inr ⟨hdx,⟨i,x,by omega,hx,hc.1,rfl⟩,λ q z hq hz ht'=>?_⟩
    rcases old hq hz with h | ⟨_,rfl⟩
    ·have:=ha q z h hz ht';omega
    ·exact Int.le_refl _
   ·rw[if_neg hc]
    refine .inr ⟨e,⟨j,y,by omega,hy,ht,hyd⟩,λ q z hq hz ht'=>?_⟩
    rcases old hq hz with h | ⟨_,rfl⟩
    ·exact ha q z h hz ht'
    ·by_cases h9:lsN l i<=z.d
     ·exact h9
     ·exact absurd ⟨ht',.inr (by omega)⟩ hc
theorem least_char {l:List Wk} (hd:∀ x ∈ l,1<=x.d):(least l=0/\∀ x ∈ l,x.top=true)\/(1<=least l/\(∃ x ∈ l,x.top=false/\x.d=least l)/\∀ x ∈ l,x.top=false->least l<=x.d):=by
 rcases lsN_char hd (Nat.le_refl l.length)with⟨e,h⟩ | ⟨e,⟨j,x,_,hx,h1,h2⟩,h⟩
 ·refine .inl ⟨e,λ x hx=>?_⟩
  obtain⟨j,hj⟩:=List.mem_iff_getElem?.1 hx
  exact h j x (List.getElem?_eq_some_iff.1 hj).1 hj
 ·refine .inr ⟨e,⟨x,List.mem_of_getElem? hx,h1,h2⟩,λ x hx ht=>?_⟩
  obtain⟨j,hj⟩:=List.mem_iff_getElem?.1 hx
  exact h j x (List.getElem?_eq_some_iff.1 hj).1 hj ht
theorem ldS_L (rl:Int) (l:List Wk):ldS rl l=sL (λ x=>qar.tm x.w x.p+qar.tm rl x.p) l:=by unfold ldS;rw[sN_all];omega
theorem tm_mono {a b t:Int} (_:0<=a) (hab:a<=b) (ht:0<t):qar.tm a t<=qar.tm b t:=by
 unfold qar.tm qar.mdQ
 simp only[true_and]
 have h1:a*4294967296/t<=b*4294967296/t:=Int.ediv_le_ediv ht (by omega)
 have e1:=Int.emod_add_mul_ediv (a*4294967296) t
 have e2:=Int.emod_add_mul_ediv (b*4294967296) t
 have k1:=Int.emod_nonneg (a*4294967296) (show t≠0 by omega)
 have k2:=Int.emod_nonneg (b*4294967296) (show t≠0 by omega)
 rcases(show a*4294967296/t=b*4294967296/t\/a*4294967296/t+1<=b*4294967296/t by omega)with e | e
 ·rw[e] at e1 ⊢
  split <;> split <;> omega
 ·split <;> split <;> omega
theorem ask_zero {l:List Wk} {bl rl t:Int} (h:askE l bl rl t=0):right l bl rl=true/\1<=t/\askO l bl rl t=false/\askV l bl rl t=askS l bl rl t:=by
 rcases ask_cases l bl rl t with⟨e,_⟩ | ⟨_,_,_,e,_⟩ | ⟨h1,h2,h3,_,h4⟩
 ·omega
 ·omega
 ·exact⟨h1,h2,h3,h4⟩
theorem ask_is {l:List Wk} {bl rl t:Int} (h1:right l bl rl=true) (h2:1<=t) (h3:askO l bl rl t=false):askE l bl rl t=0/\askV l bl rl t=askS l bl rl t:=by
 rcases ask_cases l bl rl t with⟨_,_,e⟩ | ⟨_,_,o,_⟩ | ⟨_,_,_,e,v⟩
 ·exact absurd ⟨h1,h2⟩ e
 ·rw[h3] at o;cases o
 ·exact⟨e,v⟩
theorem ask_in {l:List Wk} {bl rl t:Int} (h:askE l bl rl t=0):0<=askV l bl rl t/\askV l bl rl t<=9223372036854775807:=by
 obtain⟨h1,h2,h3,h4⟩:=ask_zero h
 rw[h4]
 exact⟨sN_pos (right_iff.1 h1).2.1.1 (trm_all h1 h2) (Nat.le_refl _),(ov_not h3).1⟩
theorem up_eq {n p:Int} (_:1<=n) (hp:1<=p):up n p=(n-1)/p+1:=by
 unfold up
 have e1:=Int.emod_add_mul_ediv n p
 have k1:=Int.emod_nonneg n (show p≠0 by omega)
 have k2:=Int.emod_lt_of_pos n (show 0<p by omega)
 by_cases h:0<n % p
 ·rw[if_pos h]
  have:(n-1)/p=n/p:=by
   have:n-1=(n % p-1)+p*(n/p):=by omega
   rw[this,Int.add_mul_ediv_left _ _ (by omega),Int.ediv_eq_zero_of_lt (by omega) (by omega)];omega
  omega
 ·rw[if_neg h]
  have:(n-1)/p=n/p-1:=by
   have e:p*(n/p-1)=p*(n/p)-p:=by rw[Int.mul_sub,Int.mul_one]
   have:n-1=(p-1)+p*(n/p-1):=by omega
   rw[this,Int.add_mul_ediv_left _ _ (by omega),Int.ediv_eq_zero_of_lt (by omega) (by omega)];omega
  omega
end Go.Proofs.YtlecikdjoekknaaGreat.dem
end
