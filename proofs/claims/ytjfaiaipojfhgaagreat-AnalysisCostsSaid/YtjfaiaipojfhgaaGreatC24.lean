/- Part 24 of a proof: PlS3 PlS4 PlS5 PlS6 PlR13. -/
import Derived.Test.YtjfaiaipojfhgaaGreatC23
section
namespace Go.Proofs.YtjfaiaipojfhgaaGreat.pln
open val ter
def Us (s:Sys) (L:List (List Pc)) (c:Int) (u:Nat) (l:List Pc) (r:Nat):Prop:=L[u]? = some l∧whO l=c∧∃ t,s.ts[u]? = some t∧∃ y ∈ t.secs,y.2.1=(r:Int)
theorem tp_two {x p:Int} (hp:1≤p):tp (tp x p) p=tp x p:=by
 unfold tp
 split
 ·rw[if_neg (by omega)]
 ·rfl
theorem ceS_is {p:Int} (hp:1≤p) {ss:List (Int × Int × Int)} {f:Nat→Int} {r:Nat}:∀ {n:Nat},n≤ss.length→((∃ (k:Nat) (y:Int × Int × Int),k<n∧ss[k]? = some y∧y.2.1=(r:Int))∧ceS p ss f n r=tp (f r) p)∨((∀ (k:Nat) (y:Int × Int × Int),k<n→ss[k]? = some y→y.2.1≠(r:Int))∧ceS p ss f n r=f r)
 | 0,_=>.inr ⟨fun k y h=>absurd h (by omega),rfl⟩
 | n+1,hn=>by
  have hx:ss[n]? = some ss[n]:=List.getElem?_eq_getElem (by omega)
  have hs:=ceS_next (p:=p) (f:=f) hx r
  rcases ceS_is hp (f:=f) (r:=r) (show n≤ss.length by omega)with⟨⟨k,y,hk,hy,hr⟩,e⟩ | ⟨h0,e⟩
  ·left
   refine⟨⟨k,y,by omega,hy,hr⟩,?_⟩
   rw[hs,e]
   split
   ·exact tp_two hp
   ·rfl
  ·by_cases hr:ss[n].2.1=(r:Int)
   ·left
    refine⟨⟨n,ss[n],by omega,hx,hr⟩,?_⟩
    rw[hs,if_pos hr,e]
   ·right
    refine⟨fun k y hk hy=>?_,by rw[hs,if_neg hr,e]⟩
    by_cases ek:k=n
    ·subst ek;rw[hx] at hy;cases hy;exact hr
    ·exact h0 k y (by omega) hy
theorem ceP_pos (s:Sys) (L:List (List Pc)) (i:Nat) (l:List Pc):1≤ceP s L i l:=by unfold ceP;omega
theorem ceN_is {s:Sys} {L:List (List Pc)} (hlen:L.length=s.ts.length) {c:Int} {r:Nat}:∀ {n:Nat},n≤L.length→((∀ u l,u<n→¬Us s L c u l r)∧ceN s L c n r=0)∨((∃ u l,u<n∧Us s L c u l r)∧1≤ceN s L c n r∧∀ q,q<ceN s L c n r ↔ ∀ u l,u<n→Us s L c u l r→q<ceP s L u l)
 | 0,_=>.inl ⟨fun u l h=>absurd h (by omega),rfl⟩
 | n+1,hn=>by
  obtain⟨l,hl⟩:∃ l,L[n]? = some l:=⟨_,List.getElem?_eq_getElem (by omega)⟩
  obtain⟨t,ht⟩:∃ t,s.ts[n]? = some t:=⟨_,List.getElem?_eq_getElem (by omega)⟩
  have ih:=ceN_is hlen (c:=c) (r:=r) (show n≤L.length by omega)
  have hs:=ceN_next (c:=c) hl ht r
  have hp:=ceP_pos s L n l
  have hu:∀ l',Us s L c n l' r ↔ (l'=l∧whO l=c∧∃ (k:Nat) (y:Int × Int × Int),k<t.secs.length∧t.secs[k]? = some y∧y.2.1=(r:Int)):=fun l'=>by
   constructor
   ·rintro⟨h1,h2,t',h3,y,hy,hr⟩
    rw[hl] at h1
    cases h1
    rw[ht] at h3
    cases h3
    obtain⟨k,hk⟩:=List.mem_iff_getElem?.1 hy
    exact⟨rfl,h2,k,y,(List.getElem?_eq_some_iff.1 hk).1,hk,hr⟩
   ·rintro⟨rfl,h2,k,y,_,hk,hr⟩
    exact⟨hl,h2,t,ht,y,List.mem_of_getElem? hk,hr⟩
  have none_:(∀ l',¬Us s L c n l' r)→ceN s L c (n+1) r=ceN s L c n r:=fun h=>by
   rw[hs]
   split
   ·next hw =>
    rcases ceS_is hp (f:=ceN s L c n) (r:=r) (Nat.le_refl t.secs.length)with⟨hk,_⟩ | ⟨_,e⟩
    ·exact absurd ((hu l).2 ⟨rfl,hw,hk⟩) (h l)
    ·exact e
   ·rfl
  by_cases hul:Us s L c n l r
  ·obtain⟨_,hw,hk⟩:=(hu l).1 hul
   have e:ceN s L c (n+1) r=tp (ceN s L c n r) (ceP s L n l):=by
    rw[hs,if_pos hw]
    rcases ceS_is hp (f:=ceN s L c n) (r:=r) (Nat.le_refl t.secs.length)with⟨_,e⟩ | ⟨h0,_⟩
    ·exact e
    ·obtain⟨k,y,h1,h2,h3⟩:=hk
     exact absurd h3 (h0 k y h1 h2)
   right
   refine⟨⟨n,l,by omega,hul⟩,?_,fun q=>?_⟩
   ·rw[e];unfold tp
    rcases ih with⟨_,h0⟩ | ⟨_,h0,_⟩ <;> split <;> omega
   ·rw[e]
    have hall:(∀ u l',u<n+1→Us s L c u l' r→q<ceP s L u l') ↔ (q<ceP s L n l∧∀ u l',u<n→Us s L c u l' r→q<ceP s L u l'):=by
     constructor
     ·exact fun h=>⟨h n l (by omega) hul,fun u l' hu' hus=>h u l' (by omega) hus⟩
     ·rintro⟨h1,h2⟩ u l' hu' hus
      by_cases eu:u=n
      ·subst eu
       obtain⟨rfl,_⟩:=(hu l').1 hus
       exact h1
      ·exact h2 u l' (by omega) hus
    rw[hall]
    rcases ih with⟨h1,h0⟩ | ⟨_,h0,h1⟩
    ·rw[h0]
     unfold tp
     rw[if_pos (.inl rfl)]
     exact⟨fun h=>⟨h,fun u l' hu' hus=>absurd hus (h1 u l' hu')⟩,fun h=>h.1⟩
    ·rw[←h1 q]
     unfold tp
     split <;> omega
  ·have hn0:∀ l',¬Us s L c n l' r:=fun l' h=>by
    obtain⟨rfl,_⟩:=(hu l').1 h
    exact hul h
   rw[none_ hn0]
   rcases ih with⟨h1,h0⟩ | ⟨⟨u,l',h1,h2⟩,h0,h3⟩
   ·left
    refine⟨fun u l' hu'=>?_,h0⟩
    by_cases eu:u=n
    ·subst eu;exact hn0 l'
    ·exact h1 u l' (by omega)
   ·right
    refine⟨⟨u,l',by omega,h2⟩,h0,fun q=>?_⟩
    rw[h3 q]
    constructor
    ·intro h v l2 hv hus
     by_cases ev:v=n
     ·subst ev;exact absurd hus (hn0 l2)
     ·exact h v l2 (by omega) hus
    ·exact fun h v l2 hv hus=>h v l2 (by omega) hus
theorem zr_lt {s:Sys} {L:List (List Pc)} (h:plR s L=true) {c r:Nat} (hc:c<s.co.toNat) (hr:r<s.rs.toNat) {u:Nat} {l:List Pc} (hu:Us s L (c:Int) u l r) (q:Int):q<zr (ceV s L) c (r:Int) ↔ ∀ v l',Us s L (c:Int) v l' r→q<ceP s L v l':=by
 have e:zr (ceV s L) c (r:Int)=ceN s L (c:Int) L.length r:=by
  unfold zr ceV ceR
  simp[List.getD,hc,hr]
 rw[e]
 have hul:u<L.length:=(List.getElem?_eq_some_iff.1 hu.1).1
 rcases ceN_is (plR_parts h).2.1 (c:=(c:Int)) (r:=r) (Nat.le_refl L.length)with⟨h1,_⟩ | ⟨_,_,h3⟩
 ·exact absurd hu (h1 u l hul)
 ·rw[h3 q]
  exact⟨fun h v l' hus=>h v l' (List.getElem?_eq_some_iff.1 hus.1).1 hus,fun h v l' _ hus=>h v l' hus⟩
end Go.Proofs.YtjfaiaipojfhgaaGreat.pln
end
section
namespace Go.Proofs.YtjfaiaipojfhgaaGreat.pln
open val ter
structure CmpA (s s':Sys) (L L':List (List Pc)) (c:Nat) (pr pr':Int):Prop where
 lt:s.po=1→∀ (i:Nat) (y:Pc),L'[i]? = some [y]→L[i]? = some [y]→y.ti=false→y.co=(c:Int)→((rkP s' L' i y).pr<pr' ↔ (rkP s L i y).pr<pr)
 gt:s.pr=2→∀ (i:Nat) (y:Pc),L'[i]? = some [y]→L[i]? = some [y]→y.ti=false→y.co=(c:Int)→(pr'<(rkP s' L' i y).pr ↔ pr<(rkP s L i y).pr)
 ce:s.pr=2→∀ (i:Nat) (y:Pc),L'[i]? = some [y]→L[i]? = some [y]→y.ti=false→y.co=(c:Int)→(pr'<ceP s' L' i [y] ↔ pr<ceP s L i [y])
theorem RelA.one {s s':Sys} {L L':List (List Pc)} (h:RelA s s' L L') {i:Nat} {l:List Pc} {c:Nat} (e:L'[i]? = some l) (hw:whO l=(c:Int)):∃ y,l = [y]∧y.ti=false∧y.co=(c:Int)∧L[i]? = some [y]:=by
 obtain⟨y,rfl,h1,h2⟩:=whO_is hw (Int.natCast_nonneg c)
 rcases h.at_ i _ e with e2 | e2
 ·cases e2
 ·exact⟨y,rfl,h1,h2,e2⟩
theorem rk_first {s:Sys} {L:List (List Pc)} {i:Nat} {y:Pc} (h:L[i]? = some [y]):((rkV s L).getD i []).getD 0 pc0=rkP s L i y:=by
 have:=rkV_at (s:=s) h
 simp[List.getD,this,rkL]
theorem skP_is {s:Sys} {L:List (List Pc)} {c:Nat} {pr:Int} {i:Nat} {y:Pc} (h:L[i]? = some [y]) (ht:y.ti=false) (hc:y.co=(c:Int)):skP s ((rkV s L).map whO) (rkV s L) (c:Int) pr i=(decide (s.po=1) && decide ((rkP s L i y).pr<pr)):=by
 unfold skP
 rw[wh_rk,wh_at h,rk_first h]
 have:whO [y]=(c:Int):=by unfold whO;rw[if_pos ⟨rfl,ht⟩];exact hc
 rw[this]
 simp
theorem skP_off {s:Sys} {L:List (List Pc)} {c:Nat} {pr:Int} {i:Nat} {l:List Pc} (h:L[i]? = some l) (hw:whO l≠(c:Int)):skP s ((rkV s L).map whO) (rkV s L) (c:Int) pr i=true:=by
 unfold skP
 rw[wh_rk,wh_at h]
 simp[hw]
theorem bkS_ge (s:Sys) (wh:List Int) (z:Int→Int) (pr:Int) (i:Nat) (ss:List (Int × Int × Int)) (m:Int):∀ k,m≤bkS s wh z pr i ss m k
 | 0=>Int.le_refl m
 | k+1=>by
  have:=bkS_ge s wh z pr i ss m k
  rw[bkS]
  split <;> omega
theorem bkS_le {s s':Sys} {wh wh':List Int} {z z':Int→Int} {pr pr':Int} {i:Nat} {ss:List (Int × Int × Int)} {m m':Int} (hm:m'≤m) (hh:∀ k,holdV s' wh' (i:Int) k≤holdV s wh (i:Int) k) (hz:∀ (k:Nat) (y:Int × Int × Int),ss[k]? = some y→hiP s' z' pr' y.2.1=false→hiP s z pr y.2.1=false):∀ k,k≤ss.length→bkS s' wh' z' pr' i ss m' k≤bkS s wh z pr i ss m k
 | 0,_=>hm
 | k+1,hk=>by
  have ih:=bkS_le hm hh hz k (by omega)
  have hx:ss[k]? = some ss[k]:=List.getElem?_eq_getElem (by omega)
  rw[bkS_next hx,bkS_next hx]
  cases e:hiP s' z' pr' ss[k].2.1 with
  | true =>
   rw[if_pos rfl]
   have:=hh (k:Int)
   split <;> omega
  | false =>
   rw[if_neg (by simp),hz k _ hx e,if_neg (by simp)]
   have:=hh (k:Int)
   omega
theorem RelA.hi {s s':Sys} {L L':List (List Pc)} (h:RelA s s' L L') {c:Nat} (hc:c<s.co.toNat) {pr pr':Int} (hp:CmpA s s' L L' c pr pr') {i:Nat} {y:Pc} (e:L'[i]? = some [y]) (e2:L[i]? = some [y]) (ht:y.ti=false) (hy:y.co=(c:Int)) {t:Tsk} (hti:s.ts[i]? = some t) {x:Int × Int × Int} (hx:x ∈ t.secs)
  (hf:hiP s' (zr (ceV s' L') c) pr' x.2.1=false):hiP s (zr (ceV s L) c) pr x.2.1=false:=by
 unfold hiP at hf ⊢
 by_cases h2:s.pr=2
 ·have hri:=(right_sec (plR_parts h.ok).1 (List.mem_of_getElem? hti) hx).1
  obtain⟨r,hr⟩:∃ r:Nat,x.2.1=(r:Int):=⟨x.2.1.toNat,by omega⟩
  have hr9:r<s.rs.toNat:=by omega
  have hw:whO [y]=(c:Int):=by unfold whO;rw[if_pos ⟨rfl,ht⟩];exact hy
  have hu:Us s L (c:Int) i [y] r:=⟨e2,hw,t,hti,x,hx,hr⟩
  have hu':Us s' L' (c:Int) i [y] r:=⟨e,hw,t,by rw[h.ts];exact hti,x,hx,hr⟩
  rw[h.pr,hr] at hf
  rw[hr]
  rw[Bool.and_eq_false_iff] at hf ⊢
  right
  rw[decide_eq_false_iff_not]
  have hf2:¬pr'<zr (ceV s' L') c (r:Int):=by
   rcases hf with hf | hf
   ·simp[h2] at hf
   ·simpa using hf
  rw[zr_lt h.ok' (by rw[h.co];exact hc) (by rw[h.rs];exact hr9) hu'] at hf2
  rw[zr_lt h.ok hc hr9 hu]
  intro hall
  apply hf2
  intro v l' hus
  obtain⟨h1,h3,tv,h4,w,hw1,hw2⟩:=hus
  obtain⟨yv,rfl,g1,g2,g3⟩:=h.one h1 h3
  exact(hp.ce h2 v yv h1 g3 g1 g2).2 (hall v [yv] ⟨g3,h3,tv,by rw[←h.ts];exact h4,w,hw1,hw2⟩)
 ·simp[h2]
theorem RelA.bkM {s s':Sys} {L L':List (List Pc)} (h:RelA s s' L L') {c:Nat} (hc:c<s.co.toNat) {pr pr':Int} (hp:CmpA s s' L L' c pr pr'):∀ n,n≤L.length→bkM s' ((rkV s' L').map whO) (rkV s' L') (zr (ceV s' L') c) (c:Int) pr' n≤bkM s ((rkV s L).map whO) (rkV s L) (zr (ceV s L) c) (c:Int) pr n∧bkE s' ((rkV s' L').map whO) (rkV s' L') (c:Int) pr' n≤bkE s ((rkV s L).map whO) (rkV s L) (c:Int) pr n
 | 0,_=>⟨Int.le_refl _,Int.le_refl _⟩
 | n+1,hn=>by
  obtain⟨ih1,ih2⟩:=RelA.bkM h hc hp n (by omega)
  obtain⟨l',hl'⟩:∃ l,L'[n]? = some l:=⟨_,List.getElem?_eq_getElem (by rw[h.len];omega)⟩
  have hlen:=(plR_parts h.ok).2.1
  obtain⟨t,ht⟩:∃ t,s.ts[n]? = some t:=⟨_,List.getElem?_eq_getElem (by omega)⟩
  have mono:pln.bkM s ((rkV s L).map whO) (rkV s L) (zr (ceV s L) c) (c:Int) pr n≤pln.bkM s ((rkV s L).map whO) (rkV s L) (zr (ceV s L) c) (c:Int) pr (n+1):=by
   rw[pln.bkM]
   split
   ·exact Int.le_refl _
   ·exact bkS_ge _ _ _ _ _ _ _ _
  have monoE:bkE s ((rkV s L).map whO) (rkV s L) (c:Int) pr n≤bkE s ((rkV s L).map whO) (rkV s L) (c:Int) pr (n+1):=by
   rw[bkE]
   split
   ·exact Int.le_refl _
   ·split <;> omega
  by_cases hw:whO l'=(c:Int)
  ·obtain⟨y,rfl,h1,h2,h3⟩:=h.one hl' hw
   have k1:=skP_is (s:=s') (pr:=pr') hl' h1 h2
   have k2:=skP_is (s:=s) (pr:=pr) h3 h1 h2
   have hk:skP s' ((rkV s' L').map whO) (rkV s' L') (c:Int) pr' n=skP s ((rkV s L).map whO) (rkV s L) (c:Int) pr n:=by
    rw[k1,k2,h.po]
    by_cases hpo:s.po=1
    ·have:=hp.lt hpo n y hl' h3 h1 h2
     simp[hpo,this]
    ·simp[hpo]
   cases e:skP s ((rkV s L).map whO) (rkV s L) (c:Int) pr n with
   | true =>
    rw[e] at hk
    rw[pln.bkM,pln.bkM,bkE,bkE,hk,e,if_pos rfl,if_pos rfl,if_pos rfl,if_pos rfl]
    exact⟨ih1,ih2⟩
   | false =>
    rw[e] at hk
    have m1:pln.bkM s' ((rkV s' L').map whO) (rkV s' L') (zr (ceV s' L') c) (c:Int) pr' (n+1)=bkS s' ((rkV s' L').map whO) (zr (ceV s' L') c) pr' n t.secs (pln.bkM s' ((rkV s' L').map whO) (rkV s' L') (zr (ceV s' L') c) (c:Int) pr' n) t.secs.length:=by rw[pln.bkM,hk,if_neg (by simp),h.ts,getT ht]
    have m2:pln.bkM s ((rkV s L).map whO) (rkV s L) (zr (ceV s L) c) (c:Int) pr (n+1)=bkS s ((rkV s L).map whO) (zr (ceV s L) c) pr n t.secs (pln.bkM s ((rkV s L).map whO) (rkV s L) (zr (ceV s L) c) (c:Int) pr n) t.secs.length:=by rw[pln.bkM,e,if_neg (by simp),getT ht]
    have m3:bkE s' ((rkV s' L').map whO) (rkV s' L') (c:Int) pr' (n+1)=bkE s' ((rkV s' L').map whO) (rkV s' L') (c:Int) pr' n+if inP s' (rkV s' L') pr' n=true then 1 else 0:=by rw[bkE,hk,if_neg (by simp)]
    have m4:bkE s ((rkV s L).map whO) (rkV s L) (c:Int) pr (n+1)=bkE s ((rkV s L).map whO) (rkV s L) (c:Int) pr n+if inP s (rkV s L) pr n=true then 1 else 0:=by rw[bkE,e,if_neg (by simp)]
    rw[m1,m2,m3,m4]
    refine⟨bkS_le ih1 (fun k=>by rw[wh_rk,wh_rk];exact h.hold hl' h3 k) (fun k x hx hf=>h.hi hc hp hl' h3 h1 h2 ht (List.mem_of_getElem? hx) hf) _ (Nat.le_refl _),?_⟩
    have hin:inP s' (rkV s' L') pr' n=inP s (rkV s L) pr n:=by
     unfold inP
     rw[rk_first hl',rk_first h3,h.pr,h.ts]
     by_cases h5:s.pr=2
     ·have:=hp.gt h5 n y hl' h3 h1 h2
      simp[h5,this]
     ·simp[h5]
    rw[hin]
    omega
  ·have k1:=skP_off (s:=s') (pr:=pr') hl' hw
   rw[pln.bkM.eq_def s',bkE.eq_def s']
   dsimp only
   rw[k1,if_pos rfl,if_pos rfl]
   omega
theorem RelA.blk {s s':Sys} {L L':List (List Pc)} (h:RelA s s' L L') {c:Nat} (hc:c<s.co.toNat) {pr pr':Int} (hp:CmpA s s' L L' c pr pr'):blkV s' (rkV s' L') (ceV s' L') c pr'≤blkV s (rkV s L) (ceV s L) c pr:=by
 obtain⟨h1,h2⟩:=h.bkM hc hp L.length (Nat.le_refl _)
 have h3:=bkE_bd s' ((rkV s' L').map whO) (rkV s' L') (c:Int) pr' L.length
 have h4:=h.sw
 have h5:=h.fi
 unfold blkV
 rw[rkV_len,rkV_len,h.len]
 have h6:=Int.mul_le_mul h2 h5.2 h5.1 (by omega)
 omega
end Go.Proofs.YtjfaiaipojfhgaaGreat.pln
end
section
namespace Go.Proofs.YtjfaiaipojfhgaaGreat.pln
open val ter
def Same (s s':Sys) (L L':List (List Pc)) (x y:Ap):Prop:=x.i=y.i∧x.k=y.k∧∃ l p,L'[x.i]? = some l∧L[x.i]? = some l∧l[x.k]? = some p∧x.p=rkP s' L' x.i p∧y.p=rkP s L x.i p
theorem apL_emb {s s':Sys} {L L':List (List Pc)} {c:Int} {i:Nat} {l:List Pc} (e:L'[i]? = some l) (e2:L[i]? = some l):∀ k,k≤l.length→dem.Emb (Same s s' L L') (apL c i (rkL s L i l) k) (apL c i (rkL s' L' i l) k)
 | 0,_=>rfl
 | k+1,hk=>by
  have ih:=apL_emb (s:=s) (s':=s') (c:=c) e e2 k (by omega)
  have hx:l[k]? = some l[k]:=List.getElem?_eq_getElem (by omega)
  have h1:(rkL s L i l)[k]? = some (rkP s L i l[k]):=by unfold rkL;rw[List.getElem?_map,hx];rfl
  have h2:(rkL s' L' i l)[k]? = some (rkP s' L' i l[k]):=by unfold rkL;rw[List.getElem?_map,hx];rfl
  rw[apL_next h1,apL_next h2]
  refine dem.emb_app ih ?_
  by_cases hc:l[k].co=c
  ·rw[if_pos (show (rkP s L i l[k]).co=c from hc),if_pos (show (rkP s' L' i l[k]).co=c from hc)]
   exact .inr ⟨_, [],rfl,⟨rfl,rfl,l,l[k],e,e2,hx,rfl,rfl⟩,rfl⟩
  ·rw[if_neg (show ¬(rkP s L i l[k]).co=c from hc),if_neg (show ¬(rkP s' L' i l[k]).co=c from hc)]
   rfl
theorem RelA.emb {s s':Sys} {L L':List (List Pc)} (h:RelA s s' L L') (c:Int):dem.Emb (Same s s' L L') (apS c (rkV s L)) (apS c (rkV s' L')):=by
 have aux:∀ n,n≤L.length→dem.Emb (Same s s' L L') (apN c (rkV s L) n) (apN c (rkV s' L') n):=by
  intro n
  induction n with
  | zero=>exact fun _=>rfl
  | succ n ih =>
   intro hn
   obtain⟨l',hl'⟩:∃ l,L'[n]? = some l:=⟨_,List.getElem?_eq_getElem (by rw[h.len];omega)⟩
   obtain⟨l,hl⟩:∃ l,L[n]? = some l:=⟨_,List.getElem?_eq_getElem (by omega)⟩
   rw[apN_next (rkV_at (s:=s) hl),apN_next (rkV_at (s:=s') hl')]
   refine dem.emb_app (ih (by omega)) ?_
   rcases h.at_ n l' hl' with rfl | e2
   ·exact dem.emb_nil _
   ·rw[hl] at e2
    cases e2
    have:=apL_emb (s:=s) (s':=s') (c:=c) hl' hl l'.length (Nat.le_refl _)
    have e1:(rkL s L n l').length=l'.length:=by unfold rkL;rw[List.length_map]
    have e3:(rkL s' L' n l').length=l'.length:=by unfold rkL;rw[List.length_map]
    rw[e1,e3]
    exact this
 unfold apS
 rw[rkV_len,rkV_len,h.len]
 exact aux L.length (Nat.le_refl _)
theorem right_pol {s:Sys} (h:right s=true):(s.po=1∨s.po=2)∧(s.pr=2→s.po=1):=by
 obtain⟨h1,_⟩:=right_parts h
 unfold vWhole at h1
 simp only[Bool.and_eq_true,wi_true,Bool.not_eq_true',Bool.and_eq_false_iff,decide_eq_false_iff_not,Bool.not_eq_false',decide_eq_true_eq] at h1
 refine⟨by omega,fun h2=>?_⟩
 rcases h1.2.2.2.1 with h3 | h3
 ·exact absurd h2 h3
 ·exact h3
theorem rk_pos {s:Sys} {L:List (List Pc)} (hpo:s.po=1) {i:Nat} {y:Pc} (ht:y.ti=false):1≤(rkP s L i y).pr:=by
 unfold rkP
 rw[if_pos ⟨hpo,ht⟩,ahead_zp]
 show 1≤1+aheadV (i:Int) y L
 unfold aheadV
 rw[aN_count];omega
theorem RelA.cmp {s s':Sys} {L L':List (List Pc)} (h:RelA s s' L L') (hpo:s.po=1) {c:Nat} {j m:Nat} {lx:List Pc} {x:Pc} (e:L'[j]? = some lx) (e2:L[j]? = some lx) (hx:lx[m]? = some x) (ht:x.ti=false) (hc:x.co=(c:Int)):CmpA s s' L L' c (rkP s L j x).pr (rkP s' L' j x).pr:=by
 have hpo':s'.po=1:=by rw[h.po];exact hpo
 have gt:∀ (i:Nat) (y:Pc),L'[i]? = some [y]→L[i]? = some [y]→y.ti=false→y.co=(c:Int)→((rkP s' L' j x).pr<(rkP s' L' i y).pr ↔ (rkP s L j x).pr<(rkP s L i y).pr):=fun i y g1 g2 g3 g4=>by
  rw[rk_lt h.ok' hpo' e g1 hx (m:=0) rfl g3 (by rw[hc,g4]),rk_lt h.ok hpo e2 g2 hx (m:=0) rfl g3 (by rw[hc,g4])]
 refine⟨fun _ i y g1 g2 g3 g4=>?_,fun _=>gt,fun _ i y g1 g2 g3 g4=>?_⟩
 ·rw[rk_lt h.ok' hpo' g1 e (k:=0) rfl hx ht (by rw[hc,g4]),rk_lt h.ok hpo g2 e2 (k:=0) rfl hx ht (by rw[hc,g4])]
 ·have k1:=rk_pos (L:=L') hpo' (i:=i) g3
  have k2:=rk_pos (L:=L) hpo (i:=i) g3
  have:=gt i y g1 g2 g3 g4
  have e3:ceP s' L' i [y]=(rkP s' L' i y).pr:=by unfold ceP;show max 1 (rkP s' L' i y).pr=_;omega
  have e4:ceP s L i [y]=(rkP s L i y).pr:=by unfold ceP;show max 1 (rkP s L i y).pr=_;omega
  rw[e3,e4]
  exact this
theorem RelA.cmp0 {s s':Sys} {L L':List (List Pc)} (h:RelA s s' L L') (hpo:s.po=2) (c:Nat):CmpA s s' L L' c 0 0:=by
 have h2:s.pr≠2:=fun e=>by have:=(right_pol (plR_parts h.ok).1).2 e;omega
 exact⟨fun e=>by omega,fun e=>absurd e h2,fun e=>absurd e h2⟩
theorem RelA.costs {s s':Sys} {L L':List (List Pc)} (h:RelA s s' L L') {w:Go.World} {A:Option Go.Addr} {N:Nat} (hl:RPl w A N L) {c:Int} {x y:Ap} (hy:y ∈ apS c (rkV s L)) (he:Same s s' L L' x y):0≤ownV s' (rkV s' L') x.i x.p∧ownV s' (rkV s' L') x.i x.p≤ownV s (rkV s L) y.i y.p:=by
 obtain⟨h1,h2,l,p,e1,e2,hp,hx,hy2⟩:=he
 obtain⟨_,hb,_⟩:=(rk_inP hl h.ok c).1 y hy
 refine⟨(ownV_bd (plR_parts h.ok').1 _ _ ?_).1,?_⟩
 ·rw[hx];rw[hy2] at hb;exact hb
 ·rw[←h1]
  exact h.own e1 e2 (by rw[hx,hy2];rfl)
theorem RelA.edf {s s':Sys} {L L':List (List Pc)} (h:RelA s s' L L') {w:Go.World} {A:Option Go.Addr} {N:Nat} (hl:RPl w A N L) (hpo:s.po=2) {c:Nat} (hc:c<s.co.toNat) (h0:edfV s (rkV s L) (ceV s L) (apS (c:Int) (rkV s L)) c=0) :
  edfV s' (rkV s' L') (ceV s' L') (apS (c:Int) (rkV s' L')) c=0∨edfV s' (rkV s' L') (ceV s' L') (apS (c:Int) (rkV s' L')) c=11:=by
 unfold edfV at h0 ⊢
 have hr:=(dem.test_ok h0).1
 have hb:=h.blk hc (h.cmp0 hpo c)
 have hb0:=(blkV_bd (plR_parts h.ok').1 (R:=rkV s' L') (by rw[rkV_len];exact(plR_small h.ok').1) (ceV s' L') c 0).1
 refine(dem.less_emb hr (dem.emb_map (h.emb (c:Int)) (fun x hx y hy he=>?_)) ⟨hb0,hb⟩ h.re).test h0
 have hco:=h.costs hl hy he
 obtain⟨h1,h2,l,p,e1,e2,hp,hxp,hyp⟩:=he
 exact⟨hco,by unfold wkOf;rw[h.ts,h1],by unfold wkOf;rw[hxp,hyp];rfl,by unfold wkOf;rw[hxp,hyp];rfl⟩
theorem RelA.fix {s s':Sys} {L L':List (List Pc)} (h:RelA s s' L L') {w:Go.World} {A:Option Go.Addr} {N:Nat} (hl:RPl w A N L) (hpo:s.po=1) {c:Nat} (hc:c<s.co.toNat) {x y:Ap} (hy:y ∈ apS (c:Int) (rkV s L)) (he:Same s s' L L' x y) (ht:y.p.ti=false) (h0:(fixV s (rkV s L) (ceV s L) (apS (c:Int) (rkV s L)) c y).2=0) :
  (fixV s' (rkV s' L') (ceV s' L') (apS (c:Int) (rkV s' L')) c x).2=11∨((fixV s' (rkV s' L') (ceV s' L') (apS (c:Int) (rkV s' L')) c x).2=0∧(fixV s' (rkV s' L') (ceV s' L') (apS (c:Int) (rkV s' L')) c x).1≤(fixV s (rkV s L) (ceV s L) (apS (c:Int) (rkV s L)) c y).1):=by
 have hpo':s'.po=1:=by rw[h.po];exact hpo
 have hco:=h.costs hl hy he
 have hyc:=apS_mem hy
 obtain⟨h1,h2,l,p,e1,e2,hp,hxp,hyp⟩:=he
 obtain⟨_,_,_,hyco⟩:=hyc
 have hpt:p.ti=false:=by rw[hyp] at ht;exact ht
 have hpc:p.co=(c:Int):=by rw[hyp] at hyco;exact hyco
 have hcmp:=h.cmp hpo (c:=c) e1 e2 hp hpt hpc
 have hb:=h.blk hc hcmp
 rw[←hxp,←hyp] at hb
 have hb0:=(blkV_bd (plR_parts h.ok').1 (R:=rkV s' L') (by rw[rkV_len];exact(plR_small h.ok').1) (ceV s' L') c x.p.pr).1
 have hde:x.p.de=y.p.de:=by rw[hxp,hyp];rfl
 have hld:∀ (u:Ap),u ∈ apS (c:Int) (rkV s' L')→∀ v ∈ apS (c:Int) (rkV s L),Same s s' L L' u v→rsp.leL (ldOf s' (rkV s' L') u) (ldOf s (rkV s L) v):=fun u hu v hv hs=>by
  have hcs:=h.costs hl hv hs
  obtain⟨g1,g2,_⟩:=hs
  exact⟨hcs,by unfold ldOf;rw[h.ts,g1],by unfold ldOf;rw[h.la,g2]⟩
 unfold fixV at h0 ⊢
 rw[hde]
 refine rsp.bn_emb (rsp.bn_ok h0).1 hco ⟨hb0,hb⟩ h.re ?_ (dem.emb_map (h.emb (c:Int)) hld) h0
 unfold abv
 refine dem.emb_map (dem.emb_filter (h.emb (c:Int)) (fun u hu v hv hs hlt=>?_)) (fun u hu v hv hs=>hld u (List.mem_filter.1 hu).1 v (List.mem_filter.1 hv).1 hs)
 obtain⟨_,_,_,hvco⟩:=apS_mem hv
 obtain⟨g1,g2,lu,pu,k1,k2,k3,k4,k5⟩:=hs
 rw[decide_eq_true_eq] at hlt ⊢
 have hpuc:pu.co=(c:Int):=by rw[k5] at hvco;exact hvco
 rw[k4,hxp,rk_lt h.ok' hpo' k1 e1 k3 hp hpt (by rw[hpuc,hpc])] at hlt
 rw[k5,hyp,rk_lt h.ok hpo k2 e2 k3 hp hpt (by rw[hpuc,hpc])]
 exact hlt
end Go.Proofs.YtjfaiaipojfhgaaGreat.pln
end
section
namespace Go.Proofs.YtjfaiaipojfhgaaGreat.pln
open val ter
theorem erJ_zero {s:Sys} {R:List (List Pc)} {Z:List (List Int)} {l:List Ap} {c:Nat} (h:erJ s R Z l c l.length=0) {j:Nat} {x:Ap} (hx:l[j]? = some x):erX s R Z l c x=0:=by
 have hj:j<l.length:=(List.getElem?_eq_some_iff.1 hx).1
 apply Classical.byContradiction
 intro hne
 have h1:erJ s R Z l c (j+1)≠0:=by
  rw[erJ,getA hx]
  split
  ·next h=>exact h
  ·exact hne
 exact h1 (by rw[←erJ_le (show j+1≤l.length by omega) h1];exact h)
theorem erJ_two {s:Sys} {R:List (List Pc)} {Z:List (List Int)} {l:List Ap} {c:Nat} (h:∀ x ∈ l,erX s R Z l c x=0∨erX s R Z l c x=11):∀ j,j≤l.length→erJ s R Z l c j=0∨erJ s R Z l c j=11
 | 0,_=>.inl rfl
 | j+1,hj=>by
  have ih:=erJ_two h j (by omega)
  have hx:l[j]? = some l[j]:=List.getElem?_eq_getElem (by omega)
  have:=h _ (List.mem_of_getElem? hx)
  rw[erJ,getA hx]
  split
  ·exact ih
  ·exact this
theorem erN_zero {s:Sys} {R:List (List Pc)} {Z:List (List Int)} {m:Nat} (h:(erN s R Z m).2=0) {c:Nat} (hc:c<m):erC s R Z (apS (c:Int) R) c=0:=by
 apply Classical.byContradiction
 intro hne
 have h1:(erN s R Z (c+1)).2≠0:=by
  rw[erN]
  split
  ·next h=>exact h
  ·exact hne
 exact h1 (by rw[←erN_le (show c+1≤m by omega) h1];exact h)
theorem erN_two {s:Sys} {R:List (List Pc)} {Z:List (List Int)}:∀ {m:Nat},(∀ c,c<m→erC s R Z (apS (c:Int) R) c=0∨erC s R Z (apS (c:Int) R) c=11)→(erN s R Z m).2=0∨(erN s R Z m).2=11
 | 0,_=>.inl rfl
 | m+1,h=>by
  have ih:=erN_two (m:=m) (fun c hc=>h c (by omega))
  have h1:=h m (by omega)
  rw[erN]
  split
  ·exact ih
  ·split
   ·exact h1
   ·exact .inl rfl
theorem erC_parts {s:Sys} {R:List (List Pc)} {Z:List (List Int)} {l:List Ap} {c:Nat} (h:erC s R Z l c=0):(s.po=2→l ≠ []→edfV s R Z l c=0)∧erJ s R Z l c l.length=0:=by
 unfold erC at h
 split at h
 ·next h1=>exact absurd h h1.2.2
 ·next h1=>exact⟨fun h2 h3=>Classical.byContradiction fun h4=>h1 ⟨h2,h3,h4⟩,h⟩
theorem RelA.erX {s s':Sys} {L L':List (List Pc)} (h:RelA s s' L L') {w:Go.World} {A:Option Go.Addr} {N:Nat} (hl:RPl w A N L) {c:Nat} (hc:c<s.co.toNat) {x y:Ap} (hy:y ∈ apS (c:Int) (rkV s L)) (he:Same s s' L L' x y) (h0:pln.erX s (rkV s L) (ceV s L) (apS (c:Int) (rkV s L)) c y=0) :
  pln.erX s' (rkV s' L') (ceV s' L') (apS (c:Int) (rkV s' L')) c x=0∨pln.erX s' (rkV s' L') (ceV s' L') (apS (c:Int) (rkV s' L')) c x=11:=by
 have hti:x.p.ti=y.p.ti:=by obtain⟨_,_,_,_,_,_,_,h1,h2⟩:=he;rw[h1,h2];rfl
 unfold pln.erX at h0 ⊢
 rw[hti,h.po]
 by_cases hc2:y.p.ti=true∨s.po=2
 ·rw[if_pos hc2];exact .inl rfl
 ·rw[if_neg hc2] at h0 ⊢
  have hpo:s.po=1:=by rcases(right_pol (plR_parts h.ok).1).1 with e | e;exact e;exact absurd (.inr e) hc2
  rcases h.fix hl hpo hc hy he (by cases e:y.p.ti;rfl;exact absurd (.inl e) hc2) h0 with e | ⟨e,_⟩
  ·exact .inr e
  ·exact .inl e
theorem RelA.erC {s s':Sys} {L L':List (List Pc)} (h:RelA s s' L L') {w:Go.World} {A:Option Go.Addr} {N:Nat} (hl:RPl w A N L) {c:Nat} (hc:c<s.co.toNat) (h0:pln.erC s (rkV s L) (ceV s L) (apS (c:Int) (rkV s L)) c=0) :
  pln.erC s' (rkV s' L') (ceV s' L') (apS (c:Int) (rkV s' L')) c=0∨pln.erC s' (rkV s' L') (ceV s' L') (apS (c:Int) (rkV s' L')) c=11:=by
 obtain⟨h1,h2⟩:=erC_parts h0
 have hem:=h.emb (c:Int)
 have hJ:=erJ_two (s:=s') (R:=rkV s' L') (Z:=ceV s' L') (l:=apS (c:Int) (rkV s' L')) (c:=c) (fun x hx=>by
  obtain⟨y,hy,hs⟩:=dem.emb_mem hem x hx
  obtain⟨j,hj⟩:=List.mem_iff_getElem?.1 hy
  exact h.erX hl hc hy hs (erJ_zero h2 hj)) _ (Nat.le_refl _)
 unfold pln.erC
 split
 ·next hx =>
  have hpo:s.po=2:=by rw[←h.po];exact hx.1
  have hne:apS (c:Int) (rkV s L) ≠ []:=fun e=>by
   have:=dem.emb_len hem
   rw[e] at this
   exact hx.2.1 (List.length_eq_zero_iff.1 (by simpa using this))
  exact(h.edf hl hpo hc (h1 hpo hne))
 ·exact hJ
theorem RelA.erN {s s':Sys} {L L':List (List Pc)} (h:RelA s s' L L') {w:Go.World} {A:Option Go.Addr} {N:Nat} (hl:RPl w A N L) (h0:(pln.erN s (rkV s L) (ceV s L) s.co.toNat).2=0):(pln.erN s' (rkV s' L') (ceV s' L') s'.co.toNat).2=0∨(pln.erN s' (rkV s' L') (ceV s' L') s'.co.toNat).2=11:=by
 rw[h.co]
 exact erN_two (fun c hc=>h.erC hl hc (erN_zero h0 hc))
theorem bdJ_val {s:Sys} {R:List (List Pc)} {Z:List (List Int)} {l:List Ap} {c:Nat} {f:Nat→Int} (k:Nat):∀ n,n≤l.length→(∃ x ∈ l,x.i=k∧x.p.ti=false∧bdJ s R Z l c f n k=bndX s R Z l c x)∨((∀ (j:Nat) (x:Ap),j<n→l[j]? = some x→x.i=k→x.p.ti=true)∧bdJ s R Z l c f n k=f k)
 | 0,_=>.inr ⟨fun j x h=>absurd h (by omega),rfl⟩
 | n+1,hn=>by
  have ih:=bdJ_val (s:=s) (R:=R) (Z:=Z) (l:=l) (c:=c) (f:=f) k n (by omega)
  have hx:l[n]? = some l[n]:=List.getElem?_eq_getElem (by omega)
  rw[bdJ,getA hx]
  by_cases ht:l[n].p.ti=true
  ·rw[if_pos ht]
   rcases ih with h | ⟨h1,h2⟩
   ·exact .inl h
   ·refine .inr ⟨fun j x hj hjx hk=>?_,h2⟩
    by_cases e:j=n
    ·subst e;rw[hx] at hjx;cases hjx;exact ht
    ·exact h1 j x (by omega) hjx hk
  ·rw[if_neg ht]
   by_cases hk:k=l[n].i
   ·rw[if_pos hk]
    exact .inl ⟨l[n],List.getElem_mem _,hk.symm,by simpa using ht,rfl⟩
   ·rw[if_neg hk]
    rcases ih with h | ⟨h1,h2⟩
    ·exact .inl h
    ·refine .inr ⟨fun j x hj hjx hki=>?_,h2⟩
     by_cases e:j=n
     ·subst e;rw[hx] at hjx;cases hjx;exact absurd hki.symm hk
     ·exact h1 j x (by omega) hjx hki
theorem apL_in {c:Int} {i:Nat} {l:List Pc} {k:Nat} {x:Pc} (hx:l[k]? = some x) (hc:x.co=c):∀ {n:Nat},k<n→n≤l.length→(⟨x,i,k⟩:Ap) ∈ apL c i l n
 | 0,h,_=>absurd h (by omega)
 | n+1,h,hn=>by
  have hy:l[n]? = some l[n]:=List.getElem?_eq_getElem (by omega)
  rw[apL_next hy,List.mem_append]
  by_cases e:k=n
  ·subst e
   rw[hx] at hy
   right
   rw[←Option.some.inj hy,if_pos hc]
   simp
  ·exact .inl (apL_in hx hc (by omega) (by omega))
theorem apN_in {c:Int} {L:List (List Pc)} {i k:Nat} {l:List Pc} {x:Pc} (hl:L[i]? = some l) (hx:l[k]? = some x) (hc:x.co=c):∀ {n:Nat},i<n→n≤L.length→(⟨x,i,k⟩:Ap) ∈ apN c L n
 | 0,h,_=>absurd h (by omega)
 | n+1,h,hn=>by
  obtain⟨m,hm⟩:∃ m,L[n]? = some m:=⟨_,List.getElem?_eq_getElem (by omega)⟩
  rw[apN_next hm,List.mem_append]
  by_cases e:i=n
  ·subst e
   rw[hl] at hm
   cases hm
   exact .inr (apL_in hx hc (List.getElem?_eq_some_iff.1 hx).1 (Nat.le_refl _))
  ·exact .inl (apN_in hl hx hc (by omega) (by omega))
theorem apS_in {c:Int} {L:List (List Pc)} {i k:Nat} {l:List Pc} {x:Pc} (hl:L[i]? = some l) (hx:l[k]? = some x) (hc:x.co=c):(⟨x,i,k⟩:Ap) ∈ apS c L:=apN_in hl hx hc (List.getElem?_eq_some_iff.1 hl).1 (Nat.le_refl _)
theorem ap_one {s:Sys} {L:List (List Pc)} (h:plR s L=true) {c:Int} {x y:Ap} (hx:x ∈ apS c (rkV s L)) (hy:y ∈ apS c (rkV s L)) (he:x.i=y.i):x=y:=by
 obtain⟨l1,a1,a2,a3⟩:=apS_mem hx
 obtain⟨l2,b1,b2,b3⟩:=apS_mem hy
 have hi:x.i<L.length:=by have:=(List.getElem?_eq_some_iff.1 a1).1;rw[rkV_len] at this;exact this
 obtain⟨l,hl⟩:∃ l,L[x.i]? = some l:=⟨_,List.getElem?_eq_getElem hi⟩
 have hv:=rkV_at (s:=s) hl
 rw[hv] at a1
 cases a1
 rw[←he,hv] at b1
 cases b1
 obtain⟨p,hp,e1⟩:=rkL_at a2
 obtain⟨q,hq,e2⟩:=rkL_at b2
 have hk:=okL_core_one (okS_at (plR_parts h).2.2 hl) hp hq (by rw[e1] at a3;rw[e2] at b3;exact a3.trans b3.symm)
 obtain⟨xp,xi,xk⟩:=x
 obtain⟨yp,yi,yk⟩:=y
 dsimp only at *
 subst he
 subst hk
 rw[a2] at b2
 cases b2
 rfl
theorem sumB_rk (s:Sys) (L:List (List Pc)) (i:Nat) (l:List Pc) (s2:Sys) (hla:s2.la=s.la):∀ k,k≤l.length→sumB s2 (rkL s2 L i l) k=sumB s l k
 | 0,_=>rfl
 | k+1,hk=>by
  have ih:=sumB_rk s L i l s2 hla k (by omega)
  have hx:l[k]? = some l[k]:=List.getElem?_eq_getElem (by omega)
  have h1:(rkL s2 L i l)[k]? = some (rkP s2 L i l[k]):=by unfold rkL;rw[List.getElem?_map,hx];rfl
  rw[sumB_next h1,sumB_next hx,ih,hla]
  rfl
end Go.Proofs.YtjfaiaipojfhgaaGreat.pln
end
section
namespace Go.Proofs.YtjfaiaipojfhgaaGreat.pln
open Go.ChangeShapes Go.WideShapes Go.ChangeAt Go.RowKit Go.Deep val ter
theorem rk_bu {s:Sys} {L:List (List Pc)} (h:plR s L=true) {i:Nat} {rl:List Pc} (hi:(rkV s L)[i]? = some rl) {y:Pc} (hy:y ∈ rl):1≤y.bu∧y.bu≤1099511627776:=by
 obtain⟨hr,hlen,hok⟩:=plR_parts h
 have hi2:i<L.length:=by have:=(List.getElem?_eq_some_iff.1 hi).1;rw[rkV_len] at this;exact this
 obtain⟨l,hli⟩:∃ l,L[i]? = some l:=⟨_,List.getElem?_eq_getElem hi2⟩
 obtain⟨t,hti⟩:∃ t,s.ts[i]? = some t:=⟨_,List.getElem?_eq_getElem (by omega)⟩
 rw[rkV_at hli] at hi
 cases hi
 obtain⟨k,hk⟩:=List.mem_iff_getElem?.1 hy
 obtain⟨x,hx,rfl⟩:=rkL_at hk
 have h5:=okS_at hok hli
 rw[getT hti] at h5
 have h6:=okL_bu h5 hx
 have h7:=((right_nums hr).2.2.2 t (List.mem_of_getElem? hti)).1
 show 1≤x.bu∧x.bu≤1099511627776
 omega
theorem sumB_bd {s:Sys} {l:List Pc} (hl:∀ y ∈ l,1≤y.bu∧y.bu≤1099511627776) (h1:1≤s.la∧s.la≤50):∀ k,k≤l.length→0≤sumB s l k∧sumB s l k≤(k:Int)*1099511627826
 | 0,_=>by rw[sumB];omega
 | k+1,hk=>by
  have ih:=sumB_bd hl h1 k (by omega)
  have hx:l[k]? = some l[k]:=List.getElem?_eq_getElem (by omega)
  have hb:=hl _ (List.mem_of_getElem? hx)
  rw[sumB_next hx]
  omega
end Go.Proofs.YtjfaiaipojfhgaaGreat.pln
end
