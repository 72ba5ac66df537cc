/- Part 32 of a proof: DeC1 DeC2 DeC3. -/
import Derived.ScopeJumps
import Derived.WalkMore
import Derived.Test.YtlecikdjoekknaaGreatM16
set_option maxRecDepth 100000
set_option maxHeartbeats 16000000
set_option linter.unusedVariables false
set_option linter.unusedSimpArgs false
section
namespace Go.Proofs.YtlecikdjoekknaaGreat.dem
open Go.Lib (hid)
open Go.ChangeShapes Go.WideShapes Go.ChangeAt Go.RowKit Go.Deep
def wkV (x:Wk):Value:=.agg #[.int .i64 x.w,.int .i64 x.p,.int .i64 x.d,.bool x.top]
theorem inside_any (a n:Int) (w:World):Calls Tryz.prog 155 #[.int .i64 a,.int .i64 n] w λ e w'=>e=.returned (.bool (inT a n))/\w'=w:=by
 by_cases h1:a<=n
 . by_cases h2:n<=1099511627776
   ·have HE:Hid (inT a n=true):=hid (inT_true.2 ⟨h1,h2⟩)
    go_enter Tryz.func155,Tryz.ntmps155
    go_wp2
    go_ret
    exact⟨ret_bool HE.out.symm,rfl⟩
   ·have HE:Hid (inT a n=false):=hid (inT_false.2 (by omega))
    go_enter Tryz.func155,Tryz.ntmps155
    go_wp2
    go_ret
    exact⟨ret_bool HE.out.symm,rfl⟩
 . have HE:Hid (inT a n=false):=hid (inT_false.2 (by omega))
   go_enter Tryz.func155,Tryz.ntmps155
   go_wp2
   go_ret
   exact⟨ret_bool HE.out.symm,rfl⟩
theorem clo_right (b:Bool) (x:Wk) (w:World):Calls Tryz.prog 157 #[.bool b,wkV x] w λ e w'=>e=.returned (.bool (b && okW x))/\But No w w':=by
 obtain⟨x0,x1,x2,x3⟩:=x
 have HE:Hid (∀ b0 b1 b2:Bool,inT 0 x0=b0->inT 1 x1=b1->inT 1 x2=b2->okW ⟨x0,x1,x2,x3⟩=(b0 && (b1 && b2))):=hid (λ b0 b1 b2 h0 h1 h2=>by unfold okW;rw[<-h0,<-h1,<-h2])
 have C0:Hid (∀ W,Calls Tryz.prog 155 #[.int .i64 0,.int .i64 x0] W λ e w'=>e=.returned (.bool (inT 0 x0))/\w'=W):=hid (λ W=>inside_any 0 x0 W)
 have C1:Hid (∀ W,Calls Tryz.prog 155 #[.int .i64 1,.int .i64 x1] W λ e w'=>e=.returned (.bool (inT 1 x1))/\w'=W):=hid (λ W=>inside_any 1 x1 W)
 have C2:Hid (∀ W,Calls Tryz.prog 155 #[.int .i64 1,.int .i64 x2] W λ e w'=>e=.returned (.bool (inT 1 x2))/\w'=W):=hid (λ W=>inside_any 1 x2 W)
 unfold wkV
 cases g0:inT 0 x0 <;> cases g1:inT 1 x1 <;> cases g2:inT 1 x2 <;> cases b <;>
 (
  rw[HE.out _ _ _ g0 g1 g2]
  rw[g0] at C0
  rw[g1] at C1
  rw[g2] at C2
  clear g0 g1 g2 HE
  dsimp only[Bool.and_true,Bool.and_false,Bool.true_and,Bool.false_and]
  go_enter Tryz.func157,Tryz.ntmps157
  go_wp2_with (go_at_call 155;first | ((with_reducible refine(C0.out _).mono ?_);rintro e wC ⟨rfl,rfl⟩) | ((with_reducible refine(C1.out _).mono ?_);rintro e wC ⟨rfl,rfl⟩) | ((with_reducible refine(C2.out _).mono ?_);rintro e wC ⟨rfl,rfl⟩))
  go_ret
  exact⟨by first | rfl | simp,by first | exact But.refl No w | exact(But.refl No w).alloc _⟩)
theorem foldB_any (A:Option Addr) (n c:Nat) (l:List Wk) (T:Nat->Bool) (w:World) (h:RWk w A n l)
   (hF:∀ (i:Nat) (x:Wk) (W:World),l[i]? = some x->Calls Tryz.prog 157 #[.bool (T i),wkV x] W λ e w'=>e=.returned (.bool (T (i+1)))/\But No W w') :
   Calls Tryz.prog 156 #[.slice A n c,.bool (T 0),.func (.func 157) #[] #[]] w λ e w'=>e=.returned (.bool (T n))/\But No w w':=by
 have HN:=hid h.len
 have HL:=hid h
 have hmax:=h.max
 have HF:=hid hF
 clear h hF
 go_enter Tryz.func156,Tryz.ntmps156
 go_wp2_with fail
 go_loopw [1,11] (λ v i wr=>∃ q:Nat,v=.bool (T q)/\i=.int .i64 (q:Int)/\q<=n/\Hid (But No w wr)) (λ _ i _=>n-(intOf i).toNat)
 case atStart=>exact⟨0,rfl,rfl,by omega,But.refl No w⟩
 case round =>
   obtain⟨q,rfl,rfl,hq,HBR⟩:=hrel
   by_cases hqn:q<n
   ·have hqn2:(q:Int)<(n:Int):=by omega
    have hq0:(0:Int)<=(q:Int):=Int.natCast_nonneg q
    obtain⟨x,hx⟩:∃ x,l[q]? = some x:=⟨_,List.getElem?_eq_getElem (by rw[HN.out];exact hqn)⟩
    obtain⟨b,off,rfl,_,e0,e1,e2,e3⟩:=(HL.out.no HBR.out).at1 hx
    have CF:Hid (∀ W,Calls Tryz.prog 157 #[.bool (T q),wkV x] W λ e w'=>e=.returned (.bool (T (q+1)))/\But No W w'):=hid (λ W=>HF.out q x W hx)
    clear hx
    obtain⟨x0,x1,x2,x3⟩:=x
    unfold wkV at CF
    dsimp only at e0 e1 e2 e3 CF
    generalize hT:T q=tq at CF ⊢
    clear hT
    go_wp2_with (go_at_call 157;(with_reducible refine(CF.out _).mono ?_);rintro e w1 ⟨rfl,hb1⟩;have HB1:=hid (HBR.out.trans (((But.refl No wr).alloc _).trans hb1));clear hb1)
    go_roundw
    case rel=>exact⟨q+1,rfl,by go_num,by omega,HB1.out⟩
    case measure=>simp[intOf];omega
   ·have HI:Hid (q=n):=hid (by omega)
    have b3:decide ((q:Int)<(n:Int))=false:=by simp;omega
    go_wp2
    go_ret
    exact⟨by rw[HI.out];rfl,HBR.out⟩
theorem all_take {l:List Wk} {i:Nat} {x:Wk} (h:l[i]? = some x):(l.take (i+1)).all okW=((l.take i).all okW && okW x):=by
 rw[List.take_add_one,h,List.all_append];simp
theorem right_any (A:Option Addr) (n c:Nat) (l:List Wk) (bl rl:Int) (w:World) (h:RWk w A n l):Calls Tryz.prog 126 #[.agg #[.slice A n c,.int .i64 bl,.int .i64 rl]] w λ e w'=>e=.returned (.bool (right l bl rl))/\But No w w':=by
 have HN:=hid h.len
 have hmax:=h.max
 have CF:Hid (∀ W,But No w W->Calls Tryz.prog 156 #[.slice A n c,.bool true,.func (.func 157) #[] #[]] W λ e w'=>e=.returned (.bool (l.all okW))/\But No W w'):=hid (λ W hb=>by
  have:=foldB_any A n c l (λ i=>(l.take i).all okW) W (h.no hb) (λ i x W' hx=>by rw[all_take hx];exact clo_right _ x W')
  have e:(l.take n).all okW=l.all okW:=by rw[List.take_of_length_le (by rw[h.len];exact Nat.le_refl n)]
  rw[e] at this
  exact this)
 clear h
 have CB:Hid (∀ W,Calls Tryz.prog 155 #[.int .i64 0,.int .i64 bl] W λ e w'=>e=.returned (.bool (inT 0 bl))/\w'=W):=hid (λ W=>inside_any 0 bl W)
 have CR:Hid (∀ W,Calls Tryz.prog 155 #[.int .i64 0,.int .i64 rl] W λ e w'=>e=.returned (.bool (inT 0 rl))/\w'=W):=hid (λ W=>inside_any 0 rl W)
 have HE:Hid (∀ b0 b1 b2:Bool,decide (n<=72)=b0->inT 0 bl=b1->inT 0 rl=b2->right l bl rl=(b0 && (b1 && (b2 && l.all okW)))):=hid (λ b0 b1 b2 h0 h1 h2=>by unfold right;rw[HN.out,<-h0,<-h1,<-h2])
 by_cases h1:n<=72
 ·have a1:decide (72<n)=false:=by simp;omega
  have a1':decide ((72:Int)<(n:Int))=false:=by simp;omega
  cases g1:inT 0 bl <;> cases g2:inT 0 rl <;>
  (
   rw[HE.out _ _ _ (decide_eq_true h1) g1 g2]
   rw[g1] at CB
   rw[g2] at CR
   clear g1 g2 HE
   try rw[Bool.true_and]
   try rw[Bool.true_and]
   try rw[Bool.true_and]
   go_enter Tryz.func126,Tryz.ntmps126
   go_wp2_with (first | (go_at_call 155;first | ((with_reducible refine(CB.out _).mono ?_);rintro e wC ⟨rfl,rfl⟩) | ((with_reducible refine(CR.out _).mono ?_);rintro e wC ⟨rfl,rfl⟩)) | (go_at_call 156;((with_reducible refine(CF.out _ ((But.refl No w).alloc _)).mono ?_);rintro e wC ⟨rfl,hbC⟩;have HBC:=hid (((But.refl No w).alloc _).trans hbC);clear hbC)))
   go_ret
   exact⟨by first | rfl | simp,by first | exact HBC.out | exact But.refl No w | exact(But.refl No w).alloc _⟩)
 ·have HV:Hid (right l bl rl=false):=hid (by rw[HE.out _ _ _ (decide_eq_false h1) rfl rfl];rfl)
  rw[HV.out]
  have a1:decide (72<n)=true:=by simp;omega
  have a1':decide ((72:Int)<(n:Int))=true:=by simp;omega
  go_enter Tryz.func126,Tryz.ntmps126
  go_wp2
  go_ret
  exact⟨by first | rfl | simp,by first | exact But.refl No w | exact(But.refl No w).alloc _⟩
theorem cd_up {n p:Int} (hn:1<=n) (hp:1<=p):qar.cdV n p=up n p/\qar.cdE n p=0:=by
 have h2:=Int.emod_nonneg n (show p≠0 by omega)
 unfold qar.cdV qar.cdE up
 have h0:¬(n<0\/p<=0):=by omega
 rw[if_neg h0,if_neg h0]
 refine⟨?_,rfl⟩
 by_cases h:n % p=0
 ·rw[if_pos h,if_neg (by omega)];omega
 ·rw[if_neg h,if_pos (by omega)]
theorem arr_any (n p:Int) (hn:1<=n) (hn9:n<=9223372036854775807) (hp:1<=p) (hp9:p<=9223372036854775807) (w:World):Calls Tryz.prog 179 #[.int .i64 n,.int .i64 p] w λ e w'=>e=.returned (.int .i64 (up n p))/\w'=w:=by
 have CC:Hid (∀ W,Calls Tryz.prog 189 #[.int .i64 n,.int .i64 p] W λ e w'=>e=.returned (.tuple #[.int .i64 (up n p),.int .i64 0])/\W=w'):=hid (λ W=>by have:=qar.ceildiv_any n p (by unfold inR;omega) (by unfold inR;omega) W;rw[(cd_up hn hp).1,(cd_up hn hp).2] at this;exact this)
 generalize up n p=u at CC ⊢
 go_enter Tryz.func179,Tryz.ntmps179
 go_wp2_with (go_at_call 189;(with_reducible refine(CC.out _).mono ?_);rintro e wC ⟨rfl,rfl⟩)
 go_ret
 exact⟨by first | rfl | trivial,by first | rfl | trivial⟩
def plP (s e a k m:Int):Int × Int:=if e≠0 then (s,e) else if 9223372036854775807<k+m\/9223372036854775807<s+(k+m)*a then (0,2) else (s+(k+m)*a,0)
theorem wp_scope_forth {P:Program} {a:Act} {w:World} {Q:Exit->Act->World->Prop} {c rest:Code} (l:Nat) (hf:findLabel c l=some rest)
  (first:c.wp P (Exit.jump l (λ a w=>rest.wp P (Exit.noGoto Q) a w) Q) a w):(Code.scope c).wp P Q a w :=
 wp_scope_jumps l _ (λ _ _=>0) hf first (λ _ _ h=>Code.wp_mono (λ e _ _ hq=>by
  cases e with
  | goto l'=>exact False.elim hq
  | normal=>exact hq
  | exit id=>exact hq
  | ret=>exact hq
  | panic ch=>exact hq
  | outgrown=>exact hq) h)
theorem plus_any (s e a k m:Int) (hs:0<=s/\s<=9223372036854775807) (he:e=0\/e=2) (ha:0<=a/\a<=9223372036854775807) (hk:0<=k/\k<=9223372036854775807) (hm:1<=m/\m<=2) (w:World) :
  Calls Tryz.prog 178 #[.agg #[.int .i64 s,.int .i64 e],.int .i64 a,.int .i64 k,.int .i64 m] w λ r w'=>r=.returned (.agg #[.int .i64 (plP s e a k m).1,.int .i64 (plP s e a k m).2])/\But No w w':=by
 rcases he with rfl | rfl
 ·have hf0:0<=(k+m)*a:=Int.mul_nonneg (by omega) ha.1
  have CA:Hid (∀ W,Calls Tryz.prog 41 #[.int .i64 k,.int .i64 m] W λ e w'=>e=.returned (.tuple #[.int .i64 (qar.exV (k+m)),.int .i64 (qar.exE (k+m))])/\W=w'):=hid (λ W=>qar.add_any k m (by unfold inR;omega) (by unfold inR;omega) W)
  by_cases h1:9223372036854775807<k+m
  . have HE:Hid (plP s 0 a k m=(0,2)):=hid (by unfold plP;rw[if_neg (by simp),if_pos (Or.inl h1)])
    rw[HE.out]
    rw[qar.exV_out (show ¬inR (k+m)by unfold inR;omega),qar.exE_out (show ¬inR (k+m)by unfold inR;omega)] at CA
    clear HE h1 hf0
    go_enter Tryz.func178,Tryz.ntmps178
    go_wp2
    refine wp_scope_forth 0 rfl ?_
    go_wp2_with (go_at_call 41;(with_reducible refine(CA.out _).mono ?_);rintro e wC ⟨rfl,rfl⟩)
    go_step3
    refine⟨rfl,?_⟩
    go_wp2
    rw[Exit.noGoto_ret]
    exact bodyPost_ret (v:=.agg #[.int .i64 0,.int .i64 2]) (by simp[results,Tryz.results178,go_sem]) rfl ⟨rfl,((But.refl No w).alloc _).alloc _⟩
  . rw[qar.exV_in (show inR (k+m)by unfold inR;omega),qar.exE_in (show inR (k+m)by unfold inR;omega)] at CA
    have CM:Hid (∀ W,Calls Tryz.prog 168 #[.int .i64 a,.int .i64 (k+m)] W λ e w'=>e=.returned (.tuple #[.int .i64 (qar.exV ((k+m)*a)),.int .i64 (qar.exE ((k+m)*a))])/\But No W w'):=hid (λ W=>by
     have h9:=qar.mul_any a (k+m) (by unfold inR;omega) (by unfold inR;omega) W
     rw[Int.mul_comm a (k+m)] at h9
     exact h9.mono (λ e w' ⟨h1,h2⟩=>⟨h1,h2.butNo⟩))
    obtain⟨f,hf⟩:∃ f,k+m=f:=⟨_,rfl⟩
    obtain⟨P,hP⟩:∃ P,(k+m)*a=P:=⟨_,rfl⟩
    rw[hP,hf] at CM
    rw[hf] at CA
    have KEEP:Hid (∀ w3,But No ((w.alloc (.cells #[.int .i64 s,.int .i64 0] 232)).alloc (.cells #[.int .i64 0,.int .i64 0] 232)) w3->Blk w3 w.heap.size #[.int .i64 s,.int .i64 0] 232/\Blk w3 (w.heap.size+1) #[.int .i64 0,.int .i64 0] 232/\But No w w3):=hid (λ w3 hb=>⟨((Blk.new w #[.int .i64 s,.int .i64 0] 232).alloc _).but hb (λ f=>f),(blk2 w _ _ _).but hb (λ f=>f),(((But.refl No w).alloc _).alloc _).trans hb⟩)
    by_cases h2:9223372036854775807<P
    ·have HE:Hid (plP s 0 a k m=(0,2)):=hid (by unfold plP;rw[if_neg (by simp),if_pos (Or.inr (by rw[hP];omega))])
     rw[HE.out]
     rw[qar.exV_out (show ¬inR P by unfold inR;omega),qar.exE_out (show ¬inR P by unfold inR;omega)] at CM
     clear HE h1 h2 hP hf
     go_enter Tryz.func178,Tryz.ntmps178
     go_wp2
     refine wp_scope_forth 0 rfl ?_
     go_wp2_with (first | (go_at_call 41;(with_reducible refine(CA.out _).mono ?_);rintro e wC ⟨rfl,rfl⟩) | (go_at_call 168;(with_reducible refine(CM.out _).mono ?_);rintro e w3 ⟨rfl,hb3⟩;obtain⟨k4,k8,hb⟩:=KEEP.out _ hb3;have y0:=k4.cell (o:=0) rfl;have y1:=k4.cell (o:=1) rfl;have y2:=k8.cell (o:=0) rfl;have y3:=k8.cell (o:=1) rfl;have z0:=k4.frozen 0;have z2:=k8.frozen 0;have z3:=k8.frozen 1;have HBW:=hid hb;have K8:=hid k8;clear hb3 hb k4 k8))
     go_step3
     refine⟨rfl,?_⟩
     go_wp2
     rw[Exit.noGoto_ret]
     exact bodyPost_ret (v:=.agg #[.int .i64 0,.int .i64 2]) (by have KB:=(K8.out.set 0 (.int .i64 0)).set 1 (.int .i64 2);have c0:=KB.cell (o:=0) rfl;have c1:=KB.cell (o:=1) rfl;simp[results,Tryz.results178,go_sem,c0,c1]) rfl ⟨rfl,(HBW.out.setNew (Nat.le_succ _) _).setNew (Nat.le_succ _) _⟩
    ·rw[qar.exV_in (show inR P by unfold inR;omega),qar.exE_in (show inR P by unfold inR;omega)] at CM
     have CS:Hid (∀ W,Calls Tryz.prog 41 #[.int .i64 s,.int .i64 P] W λ e w'=>e=.returned (.tuple #[.int .i64 (qar.exV (s+P)),.int .i64 (qar.exE (s+P))])/\W=w'):=hid (λ W=>qar.add_any s P (by unfold inR;omega) (by unfold inR;omega) W)
     by_cases h3:9223372036854775807<s+P
     ·have HE:Hid (plP s 0 a k m=(0,2)):=hid (by unfold plP;rw[if_neg (by simp),if_pos (Or.inr (by rw[hP];omega))])
      rw[HE.out]
      rw[qar.exV_out (show ¬inR (s+P)by unfold inR;omega),qar.exE_out (show ¬inR (s+P)by unfold inR;omega)] at CS
      clear HE h1 h2 h3 hP hf
      go_enter Tryz.func178,Tryz.ntmps178
      go_wp2
      refine wp_scope_forth 0 rfl ?_
      go_wp2_with (first | (go_at_call 41;first | ((with_reducible refine(CA.out _).mono ?_);rintro e wC ⟨rfl,rfl⟩) | ((with_reducible refine(CS.out _).mono ?_);rintro e wC ⟨rfl,rfl⟩)) | (go_at_call 168;(with_reducible refine(CM.out _).mono ?_);rintro e w3 ⟨rfl,hb3⟩;obtain⟨k4,k8,hb⟩:=KEEP.out _ hb3;have y0:=k4.cell (o:=0) rfl;have y1:=k4.cell (o:=1) rfl;have y2:=k8.cell (o:=0) rfl;have y3:=k8.cell (o:=1) rfl;have z0:=k4.frozen 0;have z2:=k8.frozen 0;have z3:=k8.frozen 1;have HBW:=hid hb;have K8:=hid k8;clear hb3 hb k4 k8))
      go_step3
      refine⟨rfl,?_⟩
      go_wp2
      rw[Exit.noGoto_ret]
      exact bodyPost_ret (v:=.agg #[.int .i64 0,.int .i64 2]) (by have KB:=((K8.out.other (a:=⟨w.heap.size,0,none⟩) (Nat.succ_ne_self _) (.int .i64 0)).set 0 (.int .i64 0)).set 1 (.int .i64 2);have c0:=KB.cell (o:=0) rfl;have c1:=KB.cell (o:=1) rfl;simp[results,Tryz.results178,go_sem,c0,c1]) rfl ⟨rfl,((HBW.out.setNew (Nat.le_refl _) _).setNew (Nat.le_succ _) _).setNew (Nat.le_succ _) _⟩
     ·have HE:Hid (plP s 0 a k m=(s+P,0)):=hid (by unfold plP;rw[if_neg (by simp),if_neg (by rw[hP];omega),hP])
      rw[HE.out]
      rw[qar.exV_in (show inR (s+P)by unfold inR;omega),qar.exE_in (show inR (s+P)by unfold inR;omega)] at CS
      obtain⟨S,hS⟩:∃ S,s+P=S:=⟨_,rfl⟩
      rw[hS] at CS ⊢
      clear HE h1 h2 h3 hP hf hS
      go_enter Tryz.func178,Tryz.ntmps178
      go_wp2
      go_step3
      go_wp2_with (first | (go_at_call 41;first | ((with_reducible refine(CA.out _).mono ?_);rintro e wC ⟨rfl,rfl⟩) | ((with_reducible refine(CS.out _).mono ?_);rintro e wC ⟨rfl,rfl⟩)) | (go_at_call 168;(with_reducible refine(CM.out _).mono ?_);rintro e w3 ⟨rfl,hb3⟩;obtain⟨k4,k8,hb⟩:=KEEP.out _ hb3;have y0:=k4.cell (o:=0) rfl;have y1:=k4.cell (o:=1) rfl;have y2:=k8.cell (o:=0) rfl;have y3:=k8.cell (o:=1) rfl;have z0:=k4.frozen 0;have z2:=k8.frozen 0;have z3:=k8.frozen 1;have HBW:=hid hb;have K8:=hid k8;clear hb3 hb k4 k8))
      rw[Exit.noGoto_ret]
      exact bodyPost_ret (v:=.agg #[.int .i64 S,.int .i64 0]) (by have KB:=((K8.out.other (a:=⟨w.heap.size,0,none⟩) (Nat.succ_ne_self _) (.int .i64 S)).set 0 (.int .i64 S)).set 1 (.int .i64 0);have c0:=KB.cell (o:=0) rfl;have c1:=KB.cell (o:=1) rfl;simp[results,Tryz.results178,go_sem,c0,c1]) rfl ⟨rfl,((HBW.out.setNew (Nat.le_refl _) _).setNew (Nat.le_succ _) _).setNew (Nat.le_succ _) _⟩
 ·have HE:Hid (plP s 2 a k m=(s,2)):=hid (by unfold plP;rw[if_pos (by simp)])
  rw[HE.out]
  go_enter Tryz.func178,Tryz.ntmps178
  go_wp2
  go_step3
  go_wp2
  rw[Exit.noGoto_ret]
  exact bodyPost_ret (v:=.agg #[.int .i64 s,.int .i64 2]) (by simp[results,Tryz.results178,go_sem]) rfl ⟨rfl,((But.refl No w).alloc _).alloc _⟩
def SB (w:World) (b3:Nat) (s e x0 x1 x2:Int) (x3:Bool) (bn:Nat) (n:Int) (w':World):Prop :=
 w'.cell? ⟨b3,0,none⟩=some (.int .i64 s)/\w'.cell? ⟨b3,1,none⟩=some (.int .i64 e)/\w'.cell? ⟨b3+1,0,none⟩=some (.int .i64 x0)/\w'.cell? ⟨b3+1,1,none⟩=some (.int .i64 x1)/\w'.cell? ⟨b3+1,2,none⟩=some (.int .i64 x2)/\w'.cell? ⟨b3+1,3,none⟩=some (.bool x3)/\w'.cell? ⟨bn,0,none⟩=some (.int .i64 n)/\(∃ y0 y1,Blk w' (b3+1+1) #[y0,y1] 232)/\But No w w'
theorem SB.but {w w1 w2:World} {b3 bn:Nat} {s e x0 x1 x2 n:Int} {x3:Bool} (h:SB w b3 s e x0 x1 x2 x3 bn n w1) (hb:But No w1 w2):SB w b3 s e x0 x1 x2 x3 bn n w2:=by
 obtain⟨h0,h1,h2,h3,h4,h5,h6,⟨y0,y1,h7⟩,h8⟩:=h
 exact⟨cell_keep h0 hb,cell_keep h1 hb,cell_keep h2 hb,cell_keep h3 hb,cell_keep h4 hb,cell_keep h5 hb,cell_keep h6 hb,⟨y0,y1,h7.but hb (λ f=>f)⟩,h8.trans hb⟩
theorem SB.set {w w1:World} {bn:Nat} {s e x0 x1 x2 n:Int} {x3:Bool} (v u:Value) (h:SB w w.heap.size s e x0 x1 x2 x3 bn n w1) (hn:bn<w.heap.size):SB w w.heap.size s e x0 x1 x2 x3 bn n ((w1.setCell ⟨w.heap.size+1+1,0,none⟩ v).setCell ⟨w.heap.size+1+1,1,none⟩ u):=by
 obtain⟨h0,h1,h2,h3,h4,h5,h6,⟨y0,y1,h7⟩,h8⟩:=h
 have k:∀ (b o:Nat) (z:Value),b≠w.heap.size+1+1->w1.cell? ⟨b,o,none⟩=some z->((w1.setCell ⟨w.heap.size+1+1,0,none⟩ v).setCell ⟨w.heap.size+1+1,1,none⟩ u).cell? ⟨b,o,none⟩=some z:=λ b o z hb h=>by
  rw[World.cell?_setCell_other _ _ _ _ (by intro h9;simp only[Addr.mk.injEq] at h9;omega),World.cell?_setCell_other _ _ _ _ (by intro h9;simp only[Addr.mk.injEq] at h9;omega)];exact h
 exact⟨k _ _ _ (by omega) h0,k _ _ _ (by omega) h1,k _ _ _ (by omega) h2,k _ _ _ (by omega) h3,k _ _ _ (by omega) h4,k _ _ _ (by omega) h5,k _ _ _ (by omega) h6,⟨v,u,(h7.set 0 v).set 1 u⟩,(h8.setNew (by show w.heap.size<=w.heap.size+1+1;omega) _).setNew (by show w.heap.size<=w.heap.size+1+1;omega) _⟩
theorem SB.start (w:World) (s e x0 x1 x2:Int) (x3:Bool) (bn:Nat) (n:Int) (h:w.cell? ⟨bn,0,none⟩=some (.int .i64 n)):SB w w.heap.size s e x0 x1 x2 x3 bn n (((w.alloc (.cells #[.int .i64 s,.int .i64 e] 232)).alloc (.cells #[.int .i64 x0,.int .i64 x1,.int .i64 x2,.bool x3] 161)).alloc (.cells #[.int .i64 0,.int .i64 0] 232)):=by
 have h3:Blk (((w.alloc (.cells #[.int .i64 s,.int .i64 e] 232)).alloc (.cells #[.int .i64 x0,.int .i64 x1,.int .i64 x2,.bool x3] 161)).alloc (.cells #[.int .i64 0,.int .i64 0] 232)) w.heap.size #[.int .i64 s,.int .i64 e] 232:=((Blk.new w _ _).alloc _).alloc _
 have h4:Blk (((w.alloc (.cells #[.int .i64 s,.int .i64 e] 232)).alloc (.cells #[.int .i64 x0,.int .i64 x1,.int .i64 x2,.bool x3] 161)).alloc (.cells #[.int .i64 0,.int .i64 0] 232)) (w.heap.size+1) #[.int .i64 x0,.int .i64 x1,.int .i64 x2,.bool x3] 161:=(blk2 w _ _ _).alloc _
 have h5:Blk (((w.alloc (.cells #[.int .i64 s,.int .i64 e] 232)).alloc (.cells #[.int .i64 x0,.int .i64 x1,.int .i64 x2,.bool x3] 161)).alloc (.cells #[.int .i64 0,.int .i64 0] 232)) (w.heap.size+1+1) #[.int .i64 0,.int .i64 0] 232:=by
  have:=blk2 (w.alloc (.cells #[.int .i64 s,.int .i64 e] 232)) (.cells #[.int .i64 x0,.int .i64 x1,.int .i64 x2,.bool x3] 161) #[.int .i64 0,.int .i64 0] 232
  rw[size_alloc1] at this;exact this
 have hb:But No w (((w.alloc (.cells #[.int .i64 s,.int .i64 e] 232)).alloc (.cells #[.int .i64 x0,.int .i64 x1,.int .i64 x2,.bool x3] 161)).alloc (.cells #[.int .i64 0,.int .i64 0] 232)):=(((But.refl No w).alloc _).alloc _).alloc _
 exact⟨h3.cell rfl,h3.cell rfl,h4.cell rfl,h4.cell rfl,h4.cell rfl,h4.cell rfl,cell_keep h hb,⟨_,_,h5⟩,hb⟩
theorem clo_com (s e:Int) (x:Wk) (bn:Nat) (n:Int) (w:World) (hs:0<=s/\s<=9223372036854775807) (he:e=0\/e=2) (hx:okW x=true) (hn:1<=n/\n<=9223372036854775807) (hc:w.cell? ⟨bn,0,none⟩=some (.int .i64 n)) :
  Calls Tryz.prog 177 #[.agg #[.int .i64 s,.int .i64 e],wkV x,.pointer (some ⟨bn,0,none⟩)] w λ r w'=>r=.returned (.agg #[.int .i64 (plP s e x.w (up n x.p) 1).1,.int .i64 (plP s e x.w (up n x.p) 1).2])/\But No w w':=by
 obtain⟨x0,x1,x2,x3⟩:=x
 obtain⟨⟨w0,w9⟩,⟨p0,p9⟩,d0,d9⟩:=okW_iff.1 hx
 dsimp only at w0 w9 p0 p9 d0 d9 ⊢
 have hu:=up_bd hn.1 p0
 have CU:Hid (∀ W,Calls Tryz.prog 179 #[.int .i64 n,.int .i64 x1] W λ e w'=>e=.returned (.int .i64 (up n x1))/\w'=W):=hid (λ W=>arr_any n x1 hn.1 hn.2 p0 (by omega) W)
 have CP:Hid (∀ W,Calls Tryz.prog 178 #[.agg #[.int .i64 s,.int .i64 e],.int .i64 x0,.int .i64 (up n x1),.int .i64 1] W λ r w'=>r=.returned (.agg #[.int .i64 (plP s e x0 (up n x1) 1).1,.int .i64 (plP s e x0 (up n x1) 1).2])/\But No W w'):=hid (λ W=>plus_any s e x0 (up n x1) 1 hs he (by omega) (by omega) (by omega) W)
 have hbn:=World.block_lt_of_cell? w _ hc
 have HBN:Hid (bn<w.heap.size):=hid hbn
 have HS:=hid (SB.start w s e x0 x1 x2 x3 bn n hc)
 unfold wkV
 dsimp only
 clear hs he hx w0 w9 p0 p9 d0 d9 hn hu
 generalize up n x1=u at CU CP ⊢
 generalize plP s e x0 u 1=R at CP ⊢
 obtain⟨R1,R2⟩:=R
 dsimp only at CP ⊢
 have KB:Hid (∀ w1 w2,SB w w.heap.size s e x0 x1 x2 x3 bn n w1->But No w1 w2->∃ y0 y1,Blk w2 (w.heap.size+1+1) #[y0,y1] 232):=hid (λ w1 w2 h hb=>(h.but hb).2.2.2.2.2.2.2.1)
 go_enter Tryz.func177,Tryz.ntmps177
 go_upto_region 1 with fail
 clear hc hbn
 generalize ((w.alloc (.cells #[.int .i64 s,.int .i64 e] 232)).alloc (.cells #[.int .i64 x0,.int .i64 x1,.int .i64 x2,.bool x3] 161)).alloc (.cells #[.int .i64 0,.int .i64 0] 232)=W0 at HS ⊢
 go_region_held3 (λ w'=>w'.cell? ⟨w.heap.size,0,none⟩=some (.int .i64 s)/\w'.cell? ⟨w.heap.size,1,none⟩=some (.int .i64 e)/\w'.cell? ⟨w.heap.size+1,0,none⟩=some (.int .i64 x0)/\w'.cell? ⟨w.heap.size+1,1,none⟩=some (.int .i64 x1)/\w'.cell? ⟨w.heap.size+1,2,none⟩=some (.int .i64 x2)/\w'.cell? ⟨w.heap.size+1,3,none⟩=some (.bool x3)/\w'.cell? ⟨bn,0,none⟩=some (.int .i64 n)/\(∃ y0 y1,Blk w' (w.heap.size+1+1) #[y0,y1] 232)/\But No w w')
  (first | exact SB.but HS.out (But.refl No _).drew | exact SB.set _ _ (by assumption) HBN.out | exact SB.but (by assumption) (by assumption))
  (first | (go_at_call 179;((with_reducible refine(CU.out _).mono ?_);rintro e wC ⟨rfl,rfl⟩)) | (go_at_call 178;((with_reducible refine(CP.out _).mono ?_);rintro e wP ⟨rfl,hbP⟩;obtain⟨y0,y1,kB⟩:=KB.out _ _ (by assumption) hbP;have z0:=kB.frozen 0;have z1:=kB.frozen 1;have v0:=kB.cell (o:=0) rfl;have v1:=kB.cell (o:=1) rfl)))
 rename_i hHeld
 have KF:=(kB.set 0 (.int .i64 R1)).set 1 (.int .i64 R2)
 have f0:=KF.cell (o:=0) rfl
 have f1:=KF.cell (o:=1) rfl
 go_wp2
 exact bodyPost_ret (v:=.agg #[.int .i64 R1,.int .i64 R2]) (by simp[results,Tryz.results177,go_sem,f0,f1]) rfl ⟨rfl,hHeld.2.2.2.2.2.2.2.2⟩
def adC (n:Int) (x:Wk) (s e:Int):Int × Int:=plP s e x.w (up n x.p) 1
def adD (t:Int) (x:Wk) (s e:Int):Int × Int:=if x.top=true then plP s e x.w (up t x.p) 1 else if x.d<=t then plP s e x.w ((t-x.d)/x.p) 1 else (s,e)
theorem clo_dem (s e:Int) (x:Wk) (bn:Nat) (n:Int) (w:World) (hs:0<=s/\s<=9223372036854775807) (he:e=0\/e=2) (hx:okW x=true) (hn:1<=n/\n<=9223372036854775807) (hc:w.cell? ⟨bn,0,none⟩=some (.int .i64 n)) :
  Calls Tryz.prog 180 #[.agg #[.int .i64 s,.int .i64 e],wkV x,.pointer (some ⟨bn,0,none⟩)] w λ r w'=>r=.returned (.agg #[.int .i64 (adD n x s e).1,.int .i64 (adD n x s e).2])/\But No w w':=by
 obtain⟨x0,x1,x2,x3⟩:=x
 obtain⟨⟨w0,w9⟩,⟨p0,p9⟩,d0,d9⟩:=okW_iff.1 hx
 dsimp only at w0 w9 p0 p9 d0 d9
 have hu:=up_bd hn.1 p0
 have hbn:=World.block_lt_of_cell? w _ hc
 have HBN:Hid (bn<w.heap.size):=hid hbn
 have HS:=hid (SB.start w s e x0 x1 x2 x3 bn n hc)
 have KB:Hid (∀ w1 w2,SB w w.heap.size s e x0 x1 x2 x3 bn n w1->But No w1 w2->∃ y0 y1,Blk w2 (w.heap.size+1+1) #[y0,y1] 232):=hid (λ w1 w2 h hb=>(h.but hb).2.2.2.2.2.2.2.1)
 have HC:=hid hc
 unfold wkV
 dsimp only
 cases x3 with
 | true =>
  have HE:Hid (adD n ⟨x0,x1,x2,true⟩ s e=plP s e x0 (up n x1) 1):=hid (by unfold adD;rw[if_pos rfl])
  rw[HE.out]
  have CU:Hid (∀ W,Calls Tryz.prog 179 #[.int .i64 n,.int .i64 x1] W λ e w'=>e=.returned (.int .i64 (up n x1))/\w'=W):=hid (λ W=>arr_any n x1 hn.1 hn.2 p0 (by omega) W)
  have CP:Hid (∀ W,Calls Tryz.prog 178 #[.agg #[.int .i64 s,.int .i64 e],.int .i64 x0,.int .i64 (up n x1),.int .i64 1] W λ r w'=>r=.returned (.agg #[.int .i64 (plP s e x0 (up n x1) 1).1,.int .i64 (plP s e x0 (up n x1) 1).2])/\But No W w'):=hid (λ W=>plus_any s e x0 (up n x1) 1 hs he (by omega) (by omega) (by omega) W)
  clear hs he hx w0 w9 p0 p9 d0 d9 hn hu HE hc hbn
  generalize up n x1=u at CU CP ⊢
  generalize plP s e x0 u 1=R at CP ⊢
  obtain⟨R1,R2⟩:=R
  dsimp only at CP ⊢
  go_enter Tryz.func180,Tryz.ntmps180
  go_upto_region 2 with fail
  generalize ((w.alloc (.cells #[.int .i64 s,.int .i64 e] 232)).alloc (.cells #[.int .i64 x0,.int .i64 x1,.int .i64 x2,.bool true] 161)).alloc (.cells #[.int .i64 0,.int .i64 0] 232)=W0 at HS ⊢
  go_region_held3 (λ w'=>w'.cell? ⟨w.heap.size,0,none⟩=some (.int .i64 s)/\w'.cell? ⟨w.heap.size,1,none⟩=some (.int .i64 e)/\w'.cell? ⟨w.heap.size+1,0,none⟩=some (.int .i64 x0)/\w'.cell? ⟨w.heap.size+1,1,none⟩=some (.int .i64 x1)/\w'.cell? ⟨w.heap.size+1,2,none⟩=some (.int .i64 x2)/\w'.cell? ⟨w.heap.size+1,3,none⟩=some (.bool true)/\w'.cell? ⟨bn,0,none⟩=some (.int .i64 n)/\(∃ y0 y1,Blk w' (w.heap.size+1+1) #[y0,y1] 232)/\But No w w')
   (first | exact SB.but HS.out (But.refl No _).drew | exact SB.set _ _ (by assumption) HBN.out | exact SB.but (by assumption) (by assumption))
   (first | (go_at_call 179;((with_reducible refine(CU.out _).mono ?_);rintro e wC ⟨rfl,rfl⟩)) | (go_at_call 178;((with_reducible refine(CP.out _).mono ?_);rintro e wP ⟨rfl,hbP⟩;obtain⟨y0,y1,kB⟩:=KB.out _ _ (by assumption) hbP;have z0:=kB.frozen 0;have z1:=kB.frozen 1;have v0:=kB.cell (o:=0) rfl;have v1:=kB.cell (o:=1) rfl)))
  rename_i hHeld
  have KF:=(kB.set 0 (.int .i64 R1)).set 1 (.int .i64 R2)
  have f0:=KF.cell (o:=0) rfl
  have f1:=KF.cell (o:=1) rfl
  go_wp2
  exact bodyPost_ret (v:=.agg #[.int .i64 R1,.int .i64 R2]) (by simp[results,Tryz.results180,go_sem,f0,f1]) rfl ⟨rfl,hHeld.2.2.2.2.2.2.2.2⟩
 | false =>
  by_cases hd:x2<=n
  ·have HE:Hid (adD n ⟨x0,x1,x2,false⟩ s e=plP s e x0 ((n-x2)/x1) 1):=hid (by unfold adD;rw[if_neg (by simp),if_pos hd])
   rw[HE.out]
   have b2:decide (x2<=n)=true:=by simp[hd]
   obtain⟨q,hq⟩:∃ q,(n-x2)/x1=q:=⟨_,rfl⟩
   have hdd:=div_up d0 hd p0
   rw[hq] at hdd ⊢
   have hq9:q<=n-x2:=by rw[<-hq];exact Int.ediv_le_self _ (by omega)
   have w1_:IntKind.i64.wrap (n-x2)=n-x2:=IntWalk.i64_in (n-x2) (by omega)
   have w2_:(n-x2).tdiv x1=q:=by rw[Int.tdiv_eq_ediv_of_nonneg (by omega)];exact hq
   have w3_:IntKind.i64.wrap q=q:=IntWalk.i64_in q (by omega)
   have hx10:x1≠0:=by omega
   have CP:Hid (∀ W,Calls Tryz.prog 178 #[.agg #[.int .i64 s,.int .i64 e],.int .i64 x0,.int .i64 q,.int .i64 1] W λ r w'=>r=.returned (.agg #[.int .i64 (plP s e x0 q 1).1,.int .i64 (plP s e x0 q 1).2])/\But No W w'):=hid (λ W=>plus_any s e x0 q 1 hs he (by omega) (by omega) (by omega) W)
   have c1:decide (x1=0)=false:=by simp;omega
   have kc:((((w.alloc (.cells #[.int .i64 s,.int .i64 e] 232)).alloc (.cells #[.int .i64 x0,.int .i64 x1,.int .i64 x2,.bool false] 161)).alloc (.cells #[.int .i64 0,.int .i64 0] 232))).cell? ⟨bn,0,none⟩=some (.int .i64 n):=cell_keep hc ((((But.refl No w).alloc _).alloc _).alloc _)
   clear hs he hx w0 w9 hu HE hc hbn hq hdd hq9
   generalize plP s e x0 q 1=R at CP ⊢
   obtain⟨R1,R2⟩:=R
   dsimp only at CP ⊢
   go_enter Tryz.func180,Tryz.ntmps180
   go_upto_region 4 with fail
   clear kc
   generalize ((w.alloc (.cells #[.int .i64 s,.int .i64 e] 232)).alloc (.cells #[.int .i64 x0,.int .i64 x1,.int .i64 x2,.bool false] 161)).alloc (.cells #[.int .i64 0,.int .i64 0] 232)=W0 at HS ⊢
   go_region_held3 (λ w'=>w'.cell? ⟨w.heap.size,0,none⟩=some (.int .i64 s)/\w'.cell? ⟨w.heap.size,1,none⟩=some (.int .i64 e)/\w'.cell? ⟨w.heap.size+1,0,none⟩=some (.int .i64 x0)/\w'.cell? ⟨w.heap.size+1,1,none⟩=some (.int .i64 x1)/\w'.cell? ⟨w.heap.size+1,2,none⟩=some (.int .i64 x2)/\w'.cell? ⟨w.heap.size+1,3,none⟩=some (.bool false)/\w'.cell? ⟨bn,0,none⟩=some (.int .i64 n)/\(∃ y0 y1,Blk w' (w.heap.size+1+1) #[y0,y1] 232)/\But No w w')
    (first | exact SB.but HS.out (But.refl No _).drew | exact SB.set _ _ (by assumption) HBN.out | exact SB.but (by assumption) (by assumption))
    (first | (go_at_call 178;((with_reducible refine(CP.out _).mono ?_);rintro e wP ⟨rfl,hbP⟩;obtain⟨y0,y1,kB⟩:=KB.out _ _ (by assumption) hbP;have z0:=kB.frozen 0;have z1:=kB.frozen 1;have v0:=kB.cell (o:=0) rfl;have v1:=kB.cell (o:=1) rfl)))
   rename_i hHeld
   have KF:=(kB.set 0 (.int .i64 R1)).set 1 (.int .i64 R2)
   have f0:=KF.cell (o:=0) rfl
   have f1:=KF.cell (o:=1) rfl
   go_wp2
   exact bodyPost_ret (v:=.agg #[.int .i64 R1,.int .i64 R2]) (by simp[results,Tryz.results180,go_sem,f0,f1]) rfl ⟨rfl,hHeld.2.2.2.2.2.2.2.2⟩
  ·have HE:Hid (adD n ⟨x0,x1,x2,false⟩ s e=(s,e)):=hid (by unfold adD;rw[if_neg (by simp),if_neg hd])
   rw[HE.out]
   have b2:decide (x2<=n)=false:=by simp;omega
   have kc:((((w.alloc (.cells #[.int .i64 s,.int .i64 e] 232)).alloc (.cells #[.int .i64 x0,.int .i64 x1,.int .i64 x2,.bool false] 161)).alloc (.cells #[.int .i64 0,.int .i64 0] 232))).cell? ⟨bn,0,none⟩=some (.int .i64 n):=cell_keep hc ((((But.refl No w).alloc _).alloc _).alloc _)
   clear hs he hx w0 w9 p0 p9 d0 d9 hn hu HE hbn HS KB
   go_enter Tryz.func180,Tryz.ntmps180
   go_wp2
   exact bodyPost_ret (v:=.agg #[.int .i64 s,.int .i64 e]) (by simp[results,Tryz.results180,go_sem]) rfl ⟨rfl,(((But.refl No w).alloc _).alloc _).alloc _⟩
end Go.Proofs.YtlecikdjoekknaaGreat.dem
end
