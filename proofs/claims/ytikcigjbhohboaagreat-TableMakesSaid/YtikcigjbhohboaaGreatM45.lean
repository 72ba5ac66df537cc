/- Part 45 of a proof: PeM PeB PeC PeD. -/
import Derived.Shelf.SlSortCmp.QuietGrown
import Derived.Test.YtikcigjbhohboaaGreatM07
import Derived.Test.YtikcigjbhohboaaGreatM21
import Derived.Test.YtikcigjbhohboaaGreatM43
import Derived.Test.YtikcigjbhohboaaGreatM44
section
namespace Go.Proofs.YtikcigjbhohboaaGreat.pln
set_option linter.unusedVariables false
open val ter
structure PlOk (K n:Nat) (L:List (List Pc)):Prop where
 len:L.length=n
 row:∀ l ∈ L,l.length≤K
 fit:∀ l ∈ L,∀ x ∈ l,inR x.co∧inR x.bu∧inR x.de∧inR x.pr
theorem PlOk.mono {K K' n:Nat} {L:List (List Pc)} (h:PlOk K n L) (hk:K≤K'):PlOk K' n L:=⟨h.len,fun l hl=>Nat.le_trans (h.row l hl) hk,h.fit⟩
theorem PlOk.add {K n:Nat} {L:List (List Pc)} (h:PlOk K n L) {i:Nat} {p:Pc} (hp:inR p.co∧inR p.bu∧inR p.de∧inR p.pr):PlOk (K+1) n (addP L i p):=by
 have key:∀ l ∈ addP L i p,l ∈ L∨l=L.getD i [] ++ [p]:=fun l hl=>by
  unfold addP at hl
  rcases List.mem_or_eq_of_mem_set hl with e | e
  ·exact .inl e
  ·exact .inr e
 have hg:L.getD i [] ∈ L∨L.getD i [] = []:=by
  by_cases hi:i<L.length
  ·left;simp only[List.getD];rw[List.getElem?_eq_getElem hi];exact List.getElem_mem hi
  ·right;simp only[List.getD];rw[List.getElem?_eq_none (by omega)];rfl
 refine⟨by rw[addP_len];exact h.len,fun l hl=>?_,fun l hl x hx=>?_⟩
 ·rcases key l hl with e | e
  ·exact Nat.le_succ_of_le (h.row l e)
  ·rw[e,List.length_append,List.length_singleton]
   rcases hg with q | q
   ·have:=h.row _ q;omega
   ·rw[q];simp
 ·rcases key l hl with e | e
  ·exact h.fit l e x hx
  ·rw[e] at hx
   rcases List.mem_append.1 hx with q | q
   ·rcases hg with r | r
    ·exact h.fit _ r x q
    ·rw[r] at q;cases q
   ·rw[List.mem_singleton] at q;rw[q];exact hp
theorem biN_short {s:Sys} {L:List (List Pc)} {i:Nat} {c rest left:Int} (h:left-(s.la-1)<rest):∀ (n:Nat) (b:Int) (m:Bool × Bool),biN s L i c rest left n 0 b m=(0,m)
 | 0,_,_=>rfl
 | n+1,b,m=>by
  rw[biN]
  split
  ·rw[if_pos (by omega)];exact biN_short h n _ m
  ·rfl
theorem tiN_short {s:Sys} {L:List (List Pc)} {i:Nat} {rest left:Int} {m:Bool × Bool} (h:left-(s.la-1)<rest):∀ n,tiN s L i rest left m n=(none,m)
 | 0=>rfl
 | n+1=>by
  rw[tiN,tiN_short h n]
  dsimp only
  rw[biN_short h]
  split
  ·rfl
  ·rfl
theorem tiN_has {s:Sys} {L:List (List Pc)} {i:Nat} {rest left:Int} {m:Bool × Bool}:∀ n:Nat,(∀ c:Nat,c<n→hasC L i (c:Int)=true)→tiN s L i rest left m n=(none,m)
 | 0,_=>rfl
 | n+1,h=>by
  rw[tiN,tiN_has n (fun c hc=>h c (by omega))]
  dsimp only
  rw[if_pos (h n (by omega))]
theorem tiN_some {s:Sys} {L:List (List Pc)} {i:Nat} {rest left:Int} {m:Bool × Bool}:∀ {n c:Nat} {a:Int},(tiN s L i rest left m n).1=some (c,a)→c<n∧hasC L i c=false∧0<a
 | 0,c,a,h=>by rw[tiN] at h;cases h
 | n+1,c,a,h=>by
  rw[tiN] at h
  cases e:(tiN s L i rest left m n).1 with
  | some d =>
   rw[e] at h
   cases h
   have:=tiN_some e
   exact⟨by omega,this.2⟩
  | none =>
   rw[e] at h
   dsimp only at h
   cases e2:hasC L i n with
   | true=>rw[e2,if_pos rfl] at h;cases h
   | false =>
    rw[e2,if_neg (by simp)] at h
    dsimp only at h
    split at h
    ·next hp=>cases h;exact⟨by omega,e2,hp⟩
    ·cases h
def frN (L:List (List Pc)) (i:Nat):Nat→Nat
 | 0=>0
 | n+1=>frN L i n+if hasC L i n=true then 0 else 1
theorem frN_le (L:List (List Pc)) (i:Nat):∀ n,frN L i n≤n
 | 0=>Nat.le_refl _
 | n+1=>by rw[frN];have:=frN_le L i n;split <;> omega
theorem frN_zero {L:List (List Pc)} {i:Nat}:∀ {n},frN L i n=0→∀ c,c<n→hasC L i c=true
 | n+1,h,c,hc=>by
  rw[frN] at h
  by_cases e:hasC L i n=true
  ·by_cases e2:c=n
   ·rw[e2];exact e
   ·exact frN_zero (n:=n) (by omega) c (by omega)
  ·rw[if_neg e] at h;omega
theorem hasC_add {L:List (List Pc)} {i:Nat} (hi:i<L.length) (p:Pc) (c:Int):hasC (addP L i p) i c=(hasC L i c || decide (p.co=c)):=by
 unfold hasC
 have:(addP L i p).getD i []=L.getD i [] ++ [p]:=by simp only[List.getD];rw[addP_at hi];rfl
 rw[this,List.any_append]
 simp
theorem frN_add {L:List (List Pc)} {i:Nat} (hi:i<L.length) {p:Pc} {c:Nat} (hp:p.co=c) (h:hasC L i c=false):∀ n,frN (addP L i p) i n+(if c<n then 1 else 0)=frN L i n
 | 0=>rfl
 | n+1=>by
  have ih:=frN_add hi hp h n
  rw[frN,frN,hasC_add hi,hp]
  by_cases e:c=n
  ·subst e
   rw[h]
   simp
   simp at ih
   exact ih
  ·have e2:decide ((c:Int)=(n:Int))=false:=by simp;omega
   rw[e2,Bool.or_false]
   by_cases q:c<n
   ·rw[if_pos q] at ih;rw[if_pos (show c<n+1 by omega)];omega
   ·rw[if_neg q] at ih;rw[if_neg (show ¬c<n+1 by omega)];omega
def hdN (s:Sys) (i n:Nat) (L:List (List Pc)) (rest left:Int) (m:Bool × Bool):Option (List (List Pc)) × (Bool × Bool) :=
 match laN s L i rest left m s.co.toNat with
 | (some c,m)=>(some (addP L i (lstP c rest left)),m)
 | (none,m)=>if (s.ts.getD i ts0).secs ≠ [] then (none,m) else spN s i n L rest left m
theorem plT_hd (s:Sys) (L:List (List Pc)) (i:Nat):plT s L i=hdN s i 9 L (s.ts.getD i ts0).w (s.ts.getD i ts0).d (false,false):=rfl
theorem spN_hd {s:Sys} {i n:Nat} {L:List (List Pc)} {rest left:Int} {m m1:Bool × Bool} {c:Nat} {a:Int} (hs:(s.ts.getD i ts0).secs = []) (h:tiN s L i rest left m s.co.toNat=(some (c,a),m1)) :
  spN s i (n+1) L rest left m=hdN s i n (addP L i (tiP c a)) (rest-a) (left-a-(s.la-1)) m1:=by
 rw[spN,h]
 unfold hdN
 dsimp only
 rcases laN s (addP L i (tiP c a)) i (rest-a) (left-a-(s.la-1)) m1 s.co.toNat with⟨o,m2⟩
 cases o with
 | some d=>rfl
 | none =>
  dsimp only
  rw[if_neg (fun h=>h hs)]
theorem spN_none {s:Sys} {i n:Nat} {L:List (List Pc)} {rest left:Int} {m m1:Bool × Bool} (h:tiN s L i rest left m s.co.toNat=(none,m1)):spN s i (n+1) L rest left m=(none,m1):=by rw[spN,h]
theorem fault_note (s:Sys) (L:List (List Pc)) (m:Bool × Bool):erM (said s L m)=if (chkV s L).2.2=2∨((chkV s L).2.2=11∧erM m=12) then (chkV s L).2.2 else erM m:=by
 obtain⟨a,b⟩:=m
 unfold said erM
 by_cases h2:(chkV s L).2.2=2
 ·simp[h2]
 ·by_cases h11:(chkV s L).2.2=11
  ·cases a <;> cases b <;> simp[h11]
  ·cases a <;> cases b <;> simp[h2,h11]
end Go.Proofs.YtikcigjbhohboaaGreat.pln
end
section
namespace Go.Proofs.YtikcigjbhohboaaGreat.pln
open Go.Lib (hid)
set_option linter.unusedVariables false
open Go.ChangeShapes Go.WideShapes Go.ChangeAt Go.RowKit Go.Deep val
structure Ad where
 bs:Nat
 bp:Nat
 bt:Nat
 bq:Nat
 b:Nat
 g:Nat
def boxP (s:Sys) (A:Option Addr) (n c:Nat) (d:Ad) (i:Nat) (rest left ft:Int):Array Value :=
 #[.int .i64 s.co,.int .i64 s.po,.int .i64 s.pr,.int .i64 s.re,.int .i64 s.sw,.int .i64 s.fi,.int .i64 s.la,.int .i64 s.rs,.slice A n c,.slice (some ⟨d.g,0,none⟩) n n,.int .i64 (i:Int),.int .i64 rest,.int .i64 left,.func (.func 79) #[] #[.pointer (some ⟨d.bp,0,none⟩),.pointer (some ⟨d.bt,0,none⟩),.pointer (some ⟨d.bs,0,none⟩),.pointer (some ⟨d.bq,0,none⟩)],.int .i64 ft]
structure PG (w:World) (s:Sys) (A:Option Addr) (n c:Nat) (d:Ad) (i:Nat) (vs:List Value) (L:List (List Pc)) (rest left ft:Int) (W:World):Prop where
 pl:RoP w W (.slice (some ⟨d.g,0,none⟩) n n) vs L
 len:vs.length=n
 xs:Blk W d.bs (boxS s A n c) 24
 xp:Blk W d.bp #[.slice (some ⟨d.g,0,none⟩) n n] 25
 xt:Blk W d.bt #[.int .i64 (i:Int)] 3
 xq:Blk W d.bq #[.pointer (some ⟨d.b,0,none⟩)] 99
 xb:Blk W d.b (boxP s A n c d i rest left ft) 103
 nb:w.heap.size≤d.b
theorem RoP.far {w W:World} {g n:Nat} {vs:List Value} {Ls:List (List Pc)} (h:RoP w W (.slice (some ⟨g,0,none⟩) n n) vs Ls) {r b:Nat} {u:Value} {cur:Array Value} {e:TypeId} (hur:vs[r]? = some u) (hb:Blk W b cur e) (he:e≠38) (he2:e≠42):¬(u.ownBlock=some b∨b=g):=fun q=>by
 rcases q with q | q
 ·exact h.apart hb he2 hur q
 ·exact row_ne_blk h.row hb he (by rw[q];rfl)
section
variable {w W W':World} {s:Sys} {A:Option Addr} {n c i:Nat} {d:Ad} {vs:List Value} {L:List (List Pc)} {rest left ft:Int}
theorem PG.no (h:PG w s A n c d i vs L rest left ft W) (hb:But No W W'):PG w s A n c d i vs L rest left ft W' :=
 ⟨h.pl.no hb,h.len,h.xs.but hb (fun f=>f),h.xp.but hb (fun f=>f),h.xt.but hb (fun f=>f),h.xq.but hb (fun f=>f),h.xb.but hb (fun f=>f),h.nb⟩
theorem PG.rows (h:PG w s A n c d i vs L rest left ft W) {u:Value} {r:Nat} (hur:vs[r]? = some u) (hb:But (fun k=>u.ownBlock=some k∨k=d.g) W W') {vs':List Value} {L':List (List Pc)} (hp:RoP w W' (.slice (some ⟨d.g,0,none⟩) n n) vs' L') (hl:vs'.length=n):PG w s A n c d i vs' L' rest left ft W' :=
 ⟨hp,hl,h.xs.but hb (h.pl.far hur h.xs (by decide) (by decide)),h.xp.but hb (h.pl.far hur h.xp (by decide) (by decide)),h.xt.but hb (h.pl.far hur h.xt (by decide) (by decide)),h.xq.but hb (h.pl.far hur h.xq (by decide) (by decide)),h.xb.but hb (h.pl.far hur h.xb (by decide) (by decide)),h.nb⟩
theorem PG.store (h:PG w s A n c d i vs L rest left ft W) {o:Nat} {v:Value} {rest' left' ft':Int} (he:(boxP s A n c d i rest left ft).setIfInBounds o v=boxP s A n c d i rest' left' ft'):PG w s A n c d i vs L rest' left' ft' (W.setCell ⟨d.b,o,none⟩ v)∧But (Just d.b) W (W.setCell ⟨d.b,o,none⟩ v):=by
 have ne:∀ {k:Nat} {cur:Array Value} {e:TypeId},Blk W k cur e→e≠103→k≠d.b:=fun hk he f=>by
  have h1:=h.xb
  subst f
  unfold Blk at hk h1
  rw[hk] at h1
  cases h1
  exact he rfl
 have hg:d.g≠d.b:=fun f=>row_ne_blk h.pl.row h.xb (by decide) (by rw[←f];rfl)
 have hS:But (Just d.b) W (W.setCell ⟨d.b,o,none⟩ v):=(But.refl (Just d.b) W).setCell (p:=⟨d.b,o,none⟩) (just d.b) v
 refine⟨⟨h.pl.turn hS (fun k hk=>⟨by rw[show k=d.b from hk];exact h.nb,fun f=>hg (by cases f;exact hk),fun r u hu f=>h.pl.apart h.xb (by decide) hu (by rw[←show k=d.b from hk];exact f)⟩),h.len,h.xs.other (a:=⟨d.b,o,none⟩) (ne h.xs (by decide)) v,h.xp.other (a:=⟨d.b,o,none⟩) (ne h.xp (by decide)) v,h.xt.other (a:=⟨d.b,o,none⟩) (ne h.xt (by decide)) v,h.xq.other (a:=⟨d.b,o,none⟩) (ne h.xq (by decide)) v,?_,h.nb⟩,hS⟩
 rw[←he]
 exact h.xb.set o v
end
def ntF (e ft:Int):Int:=if e=2∨e=11∧ft=12 then e else ft
set_option maxRecDepth 100000 in
set_option maxHeartbeats 2000000 in
theorem note_any {w W:World} {s:Sys} {A:Option Addr} {n c i:Nat} {d:Ad} {vs:List Value} {L:List (List Pc)} {rest left ft:Int} (h:PG w s A n c d i vs L rest left ft W) (e:Int) :
  Calls Tryz.prog 80 #[.pointer (some ⟨d.b,0,none⟩),.int .i64 e] W fun r w'=>r=.returned (.tuple #[])∧PG w s A n c d i vs L rest left (ntF e ft) w'∧But (Just d.b) W w':=by
 have k14:W.cell? ⟨d.b,14,none⟩=some (.int .i64 ft):=h.xb.cell (o:=14) rfl
 have f14:=h.xb.frozen 14
 have HS:=hid (h.store (o:=14) (v:=.int .i64 e) (rest':=rest) (left':=left) (ft':=e) rfl)
 have H0:=hid h
 clear h
 generalize hb:d.b=b at k14 f14 HS ⊢
 have HB:=hid hb
 clear hb
 by_cases e2:e=2
 ·subst e2
  have HN:Hid (ntF 2 ft=2):=hid (by unfold ntF;simp)
  go_enter Tryz.func80,Tryz.ntmps80
  go_wp2
  go_end0
  rw[HN.out]
  exact⟨rfl,HS.out⟩
 ·have b2:(e == 2)=false:=by rw[beq_eq_false_iff_ne];exact e2
  have HE2:=hid e2
  clear e2
  by_cases e11:e=11
  ·subst e11
   by_cases f12:ft=12
   ·subst f12
    have HN:Hid (ntF 11 12=11):=hid (by unfold ntF;simp)
    go_enter Tryz.func80,Tryz.ntmps80
    go_wp2
    go_end0
    rw[HN.out]
    exact⟨rfl,HS.out⟩
   ·have b12:(ft == 12)=false:=by rw[beq_eq_false_iff_ne];exact f12
    have HN:Hid (ntF 11 ft=ft):=hid (by unfold ntF;simp[f12])
    clear f12
    go_enter Tryz.func80,Tryz.ntmps80
    go_wp2
    go_end0
    rw[HN.out]
    exact⟨rfl,H0.out,But.refl _ _⟩
  ·have b11:(e == 11)=false:=by rw[beq_eq_false_iff_ne];exact e11
   have HN:Hid (ntF e ft=ft):=hid (by unfold ntF;simp[HE2.out,e11])
   clear e11
   go_enter Tryz.func80,Tryz.ntmps80
   go_wp2
   go_end0
   rw[HN.out]
   exact⟨rfl,H0.out,But.refl _ _⟩
set_option maxRecDepth 100000 in
set_option maxHeartbeats 2000000 in
theorem tight_any (co bu:Int) (W:World):Calls Tryz.prog 84 #[.int .i64 co,.int .i64 bu] W fun e w'=>e=.returned (pcV (tiP co bu))∧But No W w':=by
 unfold pcV tiP
 go_enter Tryz.func84,Tryz.ntmps84
 go_wp2
 exact bodyPost_ret (v:=.agg #[.int .i64 co,.int .i64 bu,.int .i64 bu,.int .i64 0,.bool true]) (by simp[results,Tryz.results84,go_sem]) rfl ⟨rfl,(But.refl No W).alloc _⟩
end Go.Proofs.YtikcigjbhohboaaGreat.pln
end
section
namespace Go.Proofs.YtikcigjbhohboaaGreat.pln
open Go.Lib (hid)
set_option linter.unusedVariables false
open Go.ChangeShapes Go.WideShapes Go.ChangeAt Go.RowKit Go.Deep val Go.Sort
theorem grow_but (W:World) (q:Nat) (os:Array Obj):But No W (grow (W.drewN q) os):=⟨rfl,rfl,rfl,by rw[size_grow];exact Nat.le_add_right _ _,fun k hk _=>heap_grow_old (W.drewN q) os hk⟩
theorem but_grow {W w':World} (h:∃ q os,w'=grow (W.drewN q) os):But No W w':=by
 obtain⟨q,os,rfl⟩:=h
 exact grow_but _ _ _
theorem grow_trans {W w1 w2:World} (h:∃ q os,w1=grow (W.drewN q) os) (k:∃ q os,w2=grow (w1.drewN q) os):∃ q os,w2=grow (W.drewN q) os:=by
 obtain⟨q,os,rfl⟩:=h
 obtain⟨q',os',rfl⟩:=k
 exact⟨q+q',os ++ os',by show grow (grow ((W.drewN q).drewN q') os) os'=_;rw[grow_grow,World.drewN_drewN]⟩
theorem grow_alloc (W:World) (o:Obj):∃ q os,W.alloc o=grow (W.drewN q) os:=⟨0,#[o],alloc_eq_grow W o⟩
theorem grow_refl (W:World):∃ q os,W=grow (W.drewN q) os:=⟨0,#[],(grow_empty W).symm⟩
set_option maxRecDepth 100000 in
theorem has1_any (x:Pc) (cb:Nat) (c0:Int) (W:World) (h:W.cell? ⟨cb,0,none⟩=some (.int .i64 c0)):Calls Tryz.prog 108 #[pcV x,.pointer (some ⟨cb,0,none⟩)] W fun e w'=>e=.returned (.bool (decide (x.co=c0)))∧∃ q os,w'=grow (W.drewN q) os:=by
 obtain⟨x0,x1,x2,x3,x4⟩:=x
 have h2:=cell_keep h ((But.refl No W).alloc (.cells #[.int .i64 x0,.int .i64 x1,.int .i64 x2,.int .i64 x3,.bool x4] 42))
 have HE:Hid ((x0 == c0)=decide (x0=c0)):=hid (by rw[Bool.eq_iff_iff];simp)
 unfold pcV
 dsimp only
 go_enter Tryz.func108,Tryz.ntmps108
 go_wp2
 go_ret
 exact⟨ret_bool HE.out,grow_alloc W _⟩
set_option maxRecDepth 100000 in
set_option maxHeartbeats 2000000 in
theorem index_any (A:Option Addr) (m c' cb:Nat) (c0:Int) (l:List Pc) (W:World) (hl:RPc W A m l) (h:W.cell? ⟨cb,0,none⟩=some (.int .i64 c0)) (hm:m≤1000) :
  Calls Tryz.prog 129 #[.slice A m c',.func (.func 108) #[] #[.pointer (some ⟨cb,0,none⟩)]] W fun e w'=>∃ z:Int,e=.returned (.int .i64 z)∧(∃ q os,w'=grow (W.drewN q) os)∧decide (0≤z)=l.any (fun y=>decide (y.co=c0)):=by
 have HL:=hid hl
 have HC:=hid h
 have HLN:=hid hl.len
 have CC:Hid (∀ (x:Pc) w1,But No W w1→Calls Tryz.prog 108 #[pcV x,.pointer (some ⟨cb,0,none⟩)] w1 fun e w'=>e=.returned (.bool (decide (x.co=c0)))∧∃ q os,w'=grow (w1.drewN q) os):=hid (fun x w1 hb=>has1_any x cb c0 w1 (cell_keep h hb))
 have F1:Hid (∀ (q:Nat) (x:Pc),l[q]? = some x→x.co=c0→l.any (fun y=>decide (y.co=c0))=true):=hid (fun q x hx e=>List.any_eq_true.2 ⟨x,List.mem_of_getElem? hx,by simp[e]⟩)
 have F2:Hid (∀ (q:Nat) (x:Pc),l[q]? = some x→¬x.co=c0→(l.take q).any (fun y=>decide (y.co=c0))=false→(l.take (q+1)).any (fun y=>decide (y.co=c0))=false):=hid (fun q x hx e h=>by
  obtain⟨hq,rfl⟩:=List.getElem?_eq_some_iff.1 hx
  rw[List.take_succ_eq_append_getElem hq,List.any_append,h]
  simp[e])
 have F3:Hid (∀ q,m≤q→(l.take q).any (fun y=>decide (y.co=c0))=false→l.any (fun y=>decide (y.co=c0))=false):=hid (fun q hq h=>by rwa [List.take_of_length_le (by rw[hl.len];exact hq)] at h)
 generalize (l.any fun y=>decide (y.co=c0))=R at F1 F3 ⊢
 clear hl h
 go_enter Tryz.func129,Tryz.ntmps129
 go_wp2
 go_loopw [8] (fun i wr=>∃ q:Nat,i=.int .i64 (q:Int)∧q≤m∧Hid ((l.take q).any (fun y=>decide (y.co=c0))=false)∧Hid (∃ q os,wr=grow (W.drewN q) os)) (fun i _=>m-(intOf i).toNat)
 case atStart=>exact⟨0,rfl,by omega,rfl,grow_refl W⟩
 case round =>
  obtain⟨q,rfl,hq,HT,HG⟩:=hrel
  have HB:Hid (But No W wr):=hid (but_grow HG.out)
  have hq0:(0:Int)≤(q:Int):=Int.natCast_nonneg q
  by_cases hqm:q<m
  ·have hqm2:(q:Int)<(m:Int):=by omega
   obtain⟨x,hx⟩:∃ x,l[q]? = some x:=⟨_,List.getElem?_eq_getElem (by rw[HLN.out];exact hqm)⟩
   obtain⟨b,off,rfl,_,p0,p1,p2,p3,p4⟩:=(HL.out.no HB.out).at1 hx
   have CX:=hid (CC.out x wr HB.out)
   have HX:=hid hx
   by_cases hc:x.co=c0
   ·have hd:decide (x.co=c0)=true:=by simp[hc]
    have HR:=hid (F1.out q x hx hc)
    rw[hd] at CX
    clear hx hd hc HX
    obtain⟨x0,x1,x2,x3,x4⟩:=x
    dsimp only[pcV] at p0 p1 p2 p3 p4 CX
    go_wp2_with (go_at_call 108;(with_reducible refine CX.out.mono ?_);rintro e w1 ⟨rfl,hb⟩;have HB1:=hid hb;clear hb)
    go_ret
    exact⟨_,rfl,grow_trans HG.out HB1.out,by rw[HR.out];simp⟩
   ·have hd:decide (x.co=c0)=false:=by simp[hc]
    have HT2:=hid (F2.out q x hx hc HT.out)
    rw[hd] at CX
    clear hx hd hc HX
    obtain⟨x0,x1,x2,x3,x4⟩:=x
    dsimp only[pcV] at p0 p1 p2 p3 p4 CX
    go_wp2_with (go_at_call 108;(with_reducible refine CX.out.mono ?_);rintro e w1 ⟨rfl,hb⟩;have HB1:=hid hb;clear hb)
    go_roundw
    case rel=>exact⟨q+1,by first | rfl | go_num,by omega,HT2.out,grow_trans HG.out HB1.out⟩
    case measure=>simp[intOf];omega
  ·have hqm2:¬(q:Int)<(m:Int):=by omega
   have HR:=hid (F3.out q (by omega) HT.out)
   go_wp2
   go_ret
   exact⟨_,rfl,HG.out,by rw[HR.out];rfl⟩
set_option maxRecDepth 100000 in
theorem contains_any (A:Option Addr) (m c' cb:Nat) (c0:Int) (l:List Pc) (W:World) (hl:RPc W A m l) (h:W.cell? ⟨cb,0,none⟩=some (.int .i64 c0)) (hm:m≤1000) :
  Calls Tryz.prog 107 #[.slice A m c',.func (.func 108) #[] #[.pointer (some ⟨cb,0,none⟩)]] W fun e w'=>e=.returned (.bool (l.any (fun y=>decide (y.co=c0))))∧∃ q os,w'=grow (W.drewN q) os:=by
 have CI:=hid (index_any A m c' cb c0 l W hl h hm)
 generalize (l.any fun y=>decide (y.co=c0))=R at CI ⊢
 go_enter Tryz.func107,Tryz.ntmps107
 go_wp2_with (go_at_call 129;(with_reducible refine CI.out.mono ?_);rintro e w1 ⟨z,rfl,hb,hz⟩;have HB1:=hid hb;have HZ:=hid hz;clear hb hz)
 go_ret
 exact⟨ret_bool HZ.out,HB1.out⟩
set_option maxRecDepth 100000 in
set_option maxHeartbeats 2000000 in
theorem has_any {w W:World} {s:Sys} {A:Option Addr} {n c i K:Nat} {d:Ad} {vs:List Value} {L:List (List Pc)} {rest left ft:Int} (h:PG w s A n c d i vs L rest left ft W) (hk:PlOk K n L) (hK:K≤1000) (hn:n≤1000) (hi:i<n) (c0:Int) :
  Calls Tryz.prog 81 #[.pointer (some ⟨d.b,0,none⟩),.int .i64 c0] W fun e w'=>e=.returned (.bool (hasC L i c0))∧∃ q os,w'=grow (W.drewN q) os:=by
 obtain⟨Ap,cp,hAp,hpl⟩:=h.pl.pl (by rw[hk.len];exact hn) (fun l hl=>Nat.le_trans (hk.row l hl) hK) hk.fit
 have hli:i<L.length:=by rw[hk.len];exact hi
 have hlx:L[i]? = some L[i]:=List.getElem?_eq_getElem hli
 have hAp2:Ap=some ⟨d.g,0,none⟩:=by cases hAp;rfl
 subst hAp2
 obtain⟨b,off,Al,cl,e1,hlt,hcell,hcl,hrp⟩:=hpl.at1 hlx
 cases e1
 have hhas:hasC L i c0=L[i].any (fun y=>decide (y.co=c0)):=by unfold hasC;rw[show L.getD i []=L[i] by simp[List.getD,hlx]]
 rw[hhas]
 have hlk:L[i].length≤1000:=Nat.le_trans (hk.row _ (List.getElem_mem hli)) hK
 obtain⟨W1,hW1⟩:∃ W1,W.alloc (.cells #[.int .i64 c0] 3)=W1:=⟨_,rfl⟩
 have hb1:But No W W1:=by rw[←hW1];exact(But.refl No W).alloc _
 have hk1:W1.cell? ⟨W.heap.size,0,none⟩=some (.int .i64 c0):=by rw[←hW1];exact(Blk.new W _ _).cell rfl
 have k9:W1.cell? ⟨d.b,9,none⟩=some (.slice (some ⟨d.g,0,none⟩) n n):=cell_keep (h.xb.cell (o:=9) rfl) hb1
 have k10:W1.cell? ⟨d.b,10,none⟩=some (.int .i64 (i:Int)):=cell_keep (h.xb.cell (o:=10) rfl) hb1
 have kg:W1.cell? ⟨d.g,i,none⟩=some (.slice Al L[i].length cl):=by have:=cell_keep hcell hb1;simpa using this
 have CC:Hid (∀ W2,But No W1 W2→Calls Tryz.prog 107 #[.slice Al L[i].length cl,.func (.func 108) #[] #[.pointer (some ⟨W.heap.size,0,none⟩)]] W2 fun e w'=>e=.returned (.bool (L[i].any (fun y=>decide (y.co=c0))))∧∃ q os,w'=grow (W2.drewN q) os):=hid (fun W2 hb=>contains_any Al _ cl _ c0 _ W2 (hrp.no (hb1.trans hb)) (cell_keep hk1 hb) hlk)
 generalize (L[i].any fun y=>decide (y.co=c0))=R at CC ⊢
 generalize L[i].length=m at CC kg
 have k9:=fun nn os=>cell_grown (n:=nn) (os:=os) (World.block_lt_of_cell? W1 _ k9) k9
 have k10:=fun nn os=>cell_grown (n:=nn) (os:=os) (World.block_lt_of_cell? W1 _ k10) k10
 have kg:=fun nn os=>cell_grown (n:=nn) (os:=os) (World.block_lt_of_cell? W1 _ kg) kg
 have mixed:Tryz.prog.follows .mixedOrders=true:=by kernel_rfl
 have HG1:Hid (∃ q os,W1=grow (W.drewN q) os):=hid (by rw[←hW1];exact grow_alloc W _)
 have hi2:(i:Int)<(n:Int):=by omega
 have hi0:(0:Int)≤(i:Int):=Int.natCast_nonneg i
 have hmf:∀ (fn:Fn) (first cap:Array Value) (w:World),(Instr.makeFunc fn first cap).run Tryz.prog w=.ok (.func fn first cap) w:=fun _ _ _ _=>rfl
 generalize d.b=b at k9 k10 ⊢
 generalize d.g=g at k9 kg
 clear h hk hAp hpl hlx hcell hcl hrp hhas hlk hk1 hlt hK hb1
 go_enter Tryz.func81,Tryz.ntmps81
 go_upto_region 1 with fail
 clear hW1
 go_quiet_grown (first | (go_at_call 107;refine Calls.grown_of (CC.out _ (grow_but _ _ _))))
 go_wp2
 go_ret
 exact⟨rfl,grow_trans HG1.out ⟨nq,osq,rfl⟩⟩
end Go.Proofs.YtikcigjbhohboaaGreat.pln
end
section
namespace Go.Proofs.YtikcigjbhohboaaGreat.pln
open Go.Lib (hid)
set_option linter.unusedVariables false
set_option linter.unusedSimpArgs false
open Go.ChangeShapes Go.WideShapes Go.ChangeAt Go.RowKit Go.Deep val
theorem pc_one_at (w:World) (x:Pc) (t:TypeId):∀ j u,(pcC x)[j]? = some u→(w.alloc (.cells #[.int .i64 x.co,.int .i64 x.bu,.int .i64 x.de,.int .i64 x.pr,.bool x.ti] t)).cell? ((⟨w.heap.size,0,none⟩:Addr).add j)=some u:=fun j u hu=>by
 obtain⟨ad,e,_,h⟩:=(pc_one_reads w x t).2 Nat.one_pos
 cases e
 exact h j u hu
def Sg (vs:List Value) (d:Ad) (i:Nat) (k:Nat):Prop:=k=d.b∨(∃ u,vs[i]? = some u∧u.ownBlock=some k)∨k=d.g
section
variable {w W:World} {s:Sys} {A:Option Addr} {n c i K:Nat} {d:Ad} {vs:List Value} {L:List (List Pc)} {rest left ft:Int}
theorem PG.row (h:PG w s A n c d i vs L rest left ft W) (hk:PlOk K n L) (hi:i<n):∃ u l,vs[i]? = some u∧L[i]? = some l∧l.length≤K∧(∃ Al cl,u=.slice Al l.length cl)∧OPc W u l∧W.cell? ⟨d.g,i,none⟩=some u∧W.frozen? ⟨d.g,i,none⟩=false:=by
 obtain⟨u,hu⟩:∃ u,vs[i]? = some u:=⟨_,List.getElem?_eq_getElem (by rw[h.len];exact hi)⟩
 obtain⟨l,hl⟩:∃ l,L[i]? = some l:=⟨_,List.getElem?_eq_getElem (by rw[hk.len];exact hi)⟩
 have ho:=(h.pl.own i u l hu hl).1
 refine⟨u,l,hu,hl,hk.row l (List.mem_of_getElem? hl),owns_slice ho,ho,?_⟩
 have hrw:=h.pl.row
 rw[h.len] at hrw
 obtain⟨h1,h2⟩:=hrw
 rcases h2 with⟨h2,_⟩ | ⟨g',cap,cur,hv,_,hh,hc,_,hs,ht⟩
 ·cases h2
 cases hv
 have hb:Blk W d.g cur 38:=hh
 refine⟨hb.cell ?_,hb.frozen i⟩
 have e:(cur.toList.take (n*1))[i]? = some u:=by rw[ht];exact hu
 rw[List.getElem?_take,if_pos (by omega),Array.getElem?_toList] at e
 exact e
theorem PG.push (h:PG w s A n c d i vs L rest left ft W) (hi:i<n) {u:Value} {l:List Pc} (hu:vs[i]? = some u) (hl:L[i]? = some l) {p:Pc} {W1 w5:World} {A':Option Addr} {c':Nat} (hb:But No W W1)
  (ho:w5.ownsRow 0 42 5 (.slice A' (l.length+1) c') (l.length+1) (l.flatMap pcC ++ pcC p)) (hg:W1.grownBy w5 u.ownBlock) (hat:(Value.slice A' (l.length+1) c').ownBlock=u.ownBlock∨(Value.slice A' (l.length+1) c').ownBlock=some W1.heap.size) :
  (w5.cell? ⟨d.g,i,none⟩=W.cell? ⟨d.g,i,none⟩∧w5.frozen? ⟨d.g,i,none⟩=W.frozen? ⟨d.g,i,none⟩)∧But (fun k=>u.ownBlock=some k∨k=d.g) W w5∧But (fun k=>u.ownBlock=some k∨k=d.g) W (w5.setCell ⟨d.g,i,none⟩ (.slice A' (l.length+1) c')) ∧
   PG w s A n c d i (vs.set i (.slice A' (l.length+1) c')) (addP L i p) rest left ft (w5.setCell ⟨d.g,i,none⟩ (.slice A' (l.length+1) c')):=by
 have ho2:OPc w5 (.slice A' (l.length+1) c') (l ++ [p]):=by
  unfold OPc
  rw[List.length_append,List.flatMap_append]
  simpa using ho
 obtain⟨h1,h2⟩:=h.pl.grow h.len hb hi hu hg ho2 hat
 have hB5:But (fun k=>u.ownBlock=some k) W w5:=hb.no.trans ((But.refl _ W1).grown hg (fun k e=>.inl e))
 have hgl:d.g<W.heap.size:=(World.ownsRow.lt h.pl.row d.g rfl).2
 have hug:u.ownBlock≠some d.g:=fun e=>h.pl.nb i u d.g hu e rfl
 have hblk:=hB5.block d.g hgl hug
 have e:addP L i p=L.set i (l ++ [p]):=by unfold addP;rw[show L.getD i []=l by simp[List.getD,hl]]
 rw[e]
 exact⟨⟨World.cell?_of_block hblk,by unfold World.frozen?;dsimp only;rw[hblk]⟩,hB5.mono (fun k _ e=>.inl e),h2,h.rows hu h2 h1 (by rw[List.length_set];exact h.len)⟩
end
set_option maxRecDepth 100000 in
set_option maxHeartbeats 8000000 in
theorem good_any {s:Sys} (CK:CheckAt s) {w W:World} {A:Option Addr} {n c i K:Nat} {d:Ad} {vs:List Value} {L:List (List Pc)} {rest left ft:Int} (h:PG w s A n c d i vs L rest left ft W) (hs:RSys w A n c s) (hk:PlOk K n L) (hK:K+1≤1000) (hn:n≤1000) (hi:i<n) (p:Pc) (hp:inR p.co∧inR p.bu∧inR p.de∧inR p.pr) :
  Calls Tryz.prog 79 #[pcV p,.pointer (some ⟨d.bp,0,none⟩),.pointer (some ⟨d.bt,0,none⟩),.pointer (some ⟨d.bs,0,none⟩),.pointer (some ⟨d.bq,0,none⟩)] W fun e w' =>
   e=.returned (.bool (good s (addP L i p)))∧PG w s A n c d i vs L rest left (ntF (chkV s (addP L i p)).2.2 ft) w'∧But (Sg vs d i) W w':=by
 obtain⟨u,l,hu,hl,hlK,hus,hou,kg,fg⟩:=h.row hk hi
 have HUS:=hid hus
 clear hus
 have hbW:But No W (W.alloc (.cells #[.int .i64 p.co,.int .i64 p.bu,.int .i64 p.de,.int .i64 p.pr,.bool p.ti] 42)):=(But.refl No W).alloc _
 have hx1:=Blk.new W #[.int .i64 p.co,.int .i64 p.bu,.int .i64 p.de,.int .i64 p.pr,.bool p.ti] 42
 have HPU:Hid (∀ (W1 w5:World) (A':Option Addr) (c':Nat),But No W W1→w5.ownsRow 0 42 5 (.slice A' (l.length+1) c') (l.length+1) (l.flatMap pcC ++ pcC p)→W1.grownBy w5 u.ownBlock→((Value.slice A' (l.length+1) c').ownBlock=u.ownBlock∨(Value.slice A' (l.length+1) c').ownBlock=some W1.heap.size)→w5.ownsRow 0 42 5 u l.length (l.flatMap pcC) →
   (w5.cell? ⟨d.g,i,none⟩=some u∧w5.frozen? ⟨d.g,i,none⟩=false)∧But (fun k=>u.ownBlock=some k∨k=d.g) W w5∧But (fun k=>u.ownBlock=some k∨k=d.g) W (w5.setCell ⟨d.g,i,none⟩ (.slice A' (l.length+1) c')) ∧
   PG w s A n c d i (vs.set i (.slice A' (l.length+1) c')) (addP L i p) rest left ft (w5.setCell ⟨d.g,i,none⟩ (.slice A' (l.length+1) c'))∧OPc (w5.setCell ⟨d.g,i,none⟩ (.slice A' (l.length+1) c')) u l):=hid (fun W1 w5 A' c' hb ho hg hat hback=>by
  obtain⟨⟨q1,q2⟩,q3,q4,q5⟩:=h.push hi hu hl hb ho hg hat
  exact⟨⟨by rw[q1];exact kg,by rw[q2];exact fg⟩,q3,q4,q5,ownsRow_setCell_other hback (fun e=>h.pl.nb i u d.g hu e rfl) _⟩)
 have HBK:Hid (∀ (W3 W4:World) (A':Option Addr) (c':Nat),But (fun k=>u.ownBlock=some k∨k=d.g) W W3→PG w s A n c d i (vs.set i (.slice A' (l.length+1) c')) (addP L i p) rest left ft W3→OPc W3 u l→But No W3 W4 →
   (∃ v,W4.cell? ⟨d.g,i,none⟩=some v)∧W4.frozen? ⟨d.g,i,none⟩=false∧PG w s A n c d i vs L rest left ft (W4.setCell ⟨d.g,i,none⟩ u)∧But (fun k=>u.ownBlock=some k∨k=d.g) W (W4.setCell ⟨d.g,i,none⟩ u)):=hid (fun W3 W4 A' c' b3 g3 o3 b4=>by
  obtain⟨u2,l2,_,_,_,_,_,c2,f2⟩:=(g3.no b4).row (hk.add hp) hi
  have e:addP L i p=L.set i (l ++ [p]):=by unfold addP;rw[show L.getD i []=l by simp[List.getD,hl]]
  have hB:But (fun k=>u.ownBlock=some k∨k=d.g) W (W4.setCell ⟨d.g,i,none⟩ u):=(b3.trans b4.no).setCell (p:=⟨d.g,i,none⟩) (.inr rfl) u
  have g4:=(g3.no b4).pl
  rw[e] at g4
  exact⟨⟨_,c2⟩,f2,h.rows hu hB (h.pl.back h.len hi hu hl g4 (o3.but b4 (fun _ _ f=>f))) h.len,hB⟩)
 have HPL:Hid (∀ (W3:World) (vs':List Value),PG w s A n c d i vs' (addP L i p) rest left ft W3→RPl W3 (some ⟨d.g,0,none⟩) n (addP L i p)∧RSys W3 A n c s∧Blk W3 d.bs (boxS s A n c) 24∧W3.cell? ⟨d.bp,0,none⟩=some (.slice (some ⟨d.g,0,none⟩) n n)∧W3.cell? ⟨d.bt,0,none⟩=some (.int .i64 (i:Int))∧W3.cell? ⟨d.bq,0,none⟩=some (.pointer (some ⟨d.b,0,none⟩))):=hid (fun W3 vs' g3=>by
  have hka:=hk.add (i:=i) hp
  obtain⟨Ap,cp,hAp,hpl⟩:=g3.pl.pl (by rw[hka.len];exact hn) (fun l hl=>Nat.le_trans (hka.row l hl) hK) hka.fit
  cases hAp
  rw[hka.len] at hpl
  exact⟨hpl,hs.no g3.pl.but,g3.xs,g3.xp.cell rfl,g3.xt.cell rfl,g3.xq.cell rfl⟩)
 have OWN:Hid (∀ W',But No W W'→W'.ownsRow 0 42 5 u l.length (l.flatMap pcC)):=hid (fun W' hb=>owns_but hou hb (fun _ _ f=>f))
 have KEEP0:Hid (∀ W',But (fun k=>u.ownBlock=some k∨k=d.g) W W'→W'.cell? ⟨d.bp,0,none⟩=some (.slice (some ⟨d.g,0,none⟩) n n)∧W'.cell? ⟨d.bt,0,none⟩=some (.int .i64 (i:Int))):=hid (fun W' hb=>⟨(h.xp.but hb (h.pl.far hu h.xp (by decide) (by decide))).cell rfl,(h.xt.but hb (h.pl.far hu h.xt (by decide) (by decide))).cell rfl⟩)
 have CKK:Hid (∀ W3,RSys W3 A n c s→RPl W3 (some ⟨d.g,0,none⟩) n (addP L i p)→Calls Tryz.prog 53 #[sysV s A n c,.slice (some ⟨d.g,0,none⟩) n n] W3 fun e w'=>∃ v,e=.returned (.tuple #[v,.int .i64 (chkV s (addP L i p)).2.1,.int .i64 (chkV s (addP L i p)).2.2])∧But No W3 w'):=hid (fun W3 h1 h2=>(CK A n c _ n n _ W3 h1 h2).mono fun e w' ⟨v,h3,h4,_⟩=>⟨v,h3,h4⟩)
 have HSG:Hid (∀ k,(u.ownBlock=some k∨k=d.g)→Sg vs d i k):=hid (fun k e=>e.elim (fun e=>.inr (.inl ⟨u,hu,e⟩)) (fun e=>.inr (.inr e)))
 have HSB:Hid (∀ k,Just d.b k→Sg vs d i k):=hid (fun k e=>.inl e)
 have HGD:Hid (good s (addP L i p)=((chkV s (addP L i p)).2.2 == 0)):=hid (by unfold good;rw[Bool.eq_iff_iff];simp)
 have kp:=h.xp.cell (o:=0) rfl
 have kt:=h.xt.cell (o:=0) rfl
 have hlm:l.length+1≤1001:=by omega
 rw[HGD.out]
 have NT:Hid (∀ W',PG w s A n c d i vs L rest left ft W'→Calls Tryz.prog 80 #[.pointer (some ⟨d.b,0,none⟩),.int .i64 (chkV s (addP L i p)).2.2] W' fun r w'=>r=.returned (.tuple #[])∧PG w s A n c d i vs L rest left (ntF (chkV s (addP L i p)).2.2 ft) w'∧But (Just d.b) W' w'):=hid (fun W' h=>note_any h _)
 generalize (chkV s (addP L i p)).2.2=er at CKK NT ⊢
 generalize (chkV s (addP L i p)).2.1=co at CKK
 generalize addP L i p=L2 at CKK HPU HBK HPL
 obtain⟨ip,hi0,hz0,hz1,hz2⟩:=info_parts infoP
 have IP:Hid (Tryz.prog.info? 42=some ip∧ip.zero=some (.agg #[.int .i64 0,.int .i64 0,.int .i64 0,.int .i64 0,.bool false])∧ip.size=5∧ip.bytes=40):=⟨hi0,hz0,hz1,hz2⟩
 have hi2:(i:Int)<(n:Int):=by omega
 have hi0':(0:Int)≤(i:Int):=Int.natCast_nonneg i
 clear h hs hk hp hK hu hl hou hi0 hz0 hz1 hz2 HGD
 obtain⟨p0,p1,p2,p3,p4⟩:=p
 unfold pcV
 dsimp only at hbW hx1 HPU HBK ⊢
 have h0:=hx1.cell (o:=0) rfl
 have h1:=hx1.cell (o:=1) rfl
 have h2:=hx1.cell (o:=2) rfl
 have h3:=hx1.cell (o:=3) rfl
 have h4:=hx1.cell (o:=4) rfl
 have KEEP:Hid (∀ W',But (fun k=>u.ownBlock=some k∨k=d.g) (W.alloc (.cells #[.int .i64 p0,.int .i64 p1,.int .i64 p2,.int .i64 p3,.bool p4] 42)) W'→(W'.cell? ⟨d.bp,0,none⟩=some (.slice (some ⟨d.g,0,none⟩) n n)∧W'.cell? ⟨d.bt,0,none⟩=some (.int .i64 (i:Int))∧W'.cell? ⟨W.heap.size,0,none⟩=some (.int .i64 p0)∧W'.cell? ⟨W.heap.size,1,none⟩=some (.int .i64 p1)∧W'.cell? ⟨W.heap.size,2,none⟩=some (.int .i64 p2)∧W'.cell? ⟨W.heap.size,3,none⟩=some (.int .i64 p3)∧W'.cell? ⟨W.heap.size,4,none⟩=some (.bool p4))):=hid (fun W' hb=>by
  obtain⟨g1,g2⟩:=KEEP0.out W' (hbW.no.trans hb)
  have hn1:¬(u.ownBlock=some W.heap.size∨W.heap.size=d.g):=fun e=>by
   rcases e with e | e
   ·have:=(World.ownsRow.lt (OWN.out W (But.refl No W)) _ e).2;omega
   ·have:=World.block_lt_of_cell? W _ kg;rw[←e] at this;exact absurd this (Nat.lt_irrefl _)
  have hx:=hx1.but hb hn1
  exact⟨g1,g2,hx.cell rfl,hx.cell rfl,hx.cell rfl,hx.cell rfl,hx.cell rfl⟩)
 obtain⟨W1,hW1⟩:∃ W1,W.alloc (.cells #[.int .i64 p0,.int .i64 p1,.int .i64 p2,.int .i64 p3,.bool p4] 42)=W1:=⟨_,rfl⟩
 have kg1:=cell_keep kg hbW
 have kp1:=cell_keep kp hbW
 have kt1:=cell_keep kt hbW
 rw[hW1] at hbW h0 h1 h2 h3 h4 KEEP kg1 kp1 kt1
 have HBW:=hid hbW
 have HSZ:Hid (W.heap.size<W1.heap.size):=hid (by rw[←hW1];simp)
 clear hbW hx1 KEEP0 kg kp kt fg
 go_enter Tryz.func79,Tryz.ntmps79
 go_upto_region 2 with fail
 refine wp_region_noPanic ?_
 refine wp_region_held_drew (S:=fun W'=>(W'.cell? ⟨d.bp,0,none⟩=some (.slice (some ⟨d.g,0,none⟩) n n)∧W'.cell? ⟨d.bt,0,none⟩=some (.int .i64 (i:Int))∧W'.cell? ⟨W.heap.size,0,none⟩=some (.int .i64 p0)∧W'.cell? ⟨W.heap.size,1,none⟩=some (.int .i64 p1)∧W'.cell? ⟨W.heap.size,2,none⟩=some (.int .i64 p2)∧W'.cell? ⟨W.heap.size,3,none⟩=some (.int .i64 p3)∧W'.cell? ⟨W.heap.size,4,none⟩=some (.bool p4))) (by kernel_rfl) (KEEP.out _ (But.refl _ W1).drew) (fun hHeld=>?_)
 refine wpAnyH_take (i:=0) (v:=?va1) rfl (by kernel_rfl) (by kernel_rfl) (by kernel_rfl) (fun _ _ _ h=>h) (Or.inl ⟨by rfl,?hya1⟩) (by assumption) ?resta1
 case hya1=>(intro w hSw;(try dsimp only at hSw);go_simp <;> with_reducible rfl)
 try simp only[Act.put,List.setIfInBounds_toArray,List.set_cons_zero,List.set_cons_succ]
 refine wpAnyH_take (i:=1) (v:=?va2) rfl (by kernel_rfl) (by kernel_rfl) (by kernel_rfl) (fun _ _ _ h=>h) (Or.inl ⟨by rfl,?hya2⟩) (by assumption) ?resta2
 case hya2=>(intro w hSw;(try dsimp only at hSw);go_simp <;> with_reducible rfl)
 try simp only[Act.put,List.setIfInBounds_toArray,List.set_cons_zero,List.set_cons_succ]
 refine wpAnyH_take (i:=2) (v:=?va3) rfl (by kernel_rfl) (by kernel_rfl) (by kernel_rfl) (fun _ _ _ h=>h) (Or.inl ⟨by rfl,?hya3⟩) (by assumption) ?resta3
 case hya3=>(intro w hSw;(try dsimp only at hSw);go_simp <;> with_reducible rfl)
 try simp only[Act.put,List.setIfInBounds_toArray,List.set_cons_zero,List.set_cons_succ]
 refine wpAnyH_take (i:=3) (v:=?va4) rfl (by kernel_rfl) (by kernel_rfl) (by kernel_rfl) (fun _ _ _ h=>h) (Or.inl ⟨by rfl,?hya4⟩) (by assumption) ?resta4
 case hya4=>(intro w hSw;(try dsimp only at hSw);go_simp <;> with_reducible rfl)
 try simp only[Act.put,List.setIfInBounds_toArray,List.set_cons_zero,List.set_cons_succ]
 refine wpAnyH_ready (rs:=[4]) (by kernel_rfl) (by simp) ?_
 refine AllReadyH.cons rfl (fun K hK=>?_) AllReadyH.nil
 go_simp
 refine hK.out _ _ (KEEP.out _ ((But.refl No W1).drew.alloc _).no) (fun hHeld=>?_)
 clear hK K
 try simp only[Act.put,List.setIfInBounds_toArray,List.set_cons_zero,List.set_cons_succ]
 refine wpAnyH_ready (rs:=[5]) (by kernel_rfl) (by simp) ?_
 refine AllReadyH.cons rfl (fun K hK=>?_) AllReadyH.nil
 refine step_append_bk rfl _ _ 38 rfl 42 ip _ 5 40 Tryz.underlying38 IP.out.1 IP.out.2.1 IP.out.2.2.1 IP.out.2.2.2 rfl (by omega) u l.length (l.flatMap pcC) (by simp[Act.eval]) (OWN.out _ (HBW.out.trans (((But.refl No W1).drew).alloc (.cells #[.int .i64 p0,.int .i64 p1,.int .i64 p2,.int .i64 p3,.bool p4] 42)))) ⟨W1.drew.heap.size,0,none⟩ 1 1 (pcC ⟨p0,p1,p2,p3,p4⟩) (by simp[Act.eval]) rfl (pc_one_at W1.drew ⟨p0,p1,p2,p3,p4⟩ _) (pc_one_cell _) (by unfold maxLen;omega) (by omega) ?_
 intro A6 c6 w6 hown6 hgrow6 hat6 hback6
 have HP6:=hid (HPU.out _ w6 A6 c6 (HBW.out.trans (((But.refl No W1).drew).alloc (.cells #[.int .i64 p0,.int .i64 p1,.int .i64 p2,.int .i64 p3,.bool p4] 42))) hown6.out hgrow6.out hat6.out hback6.out)
 have HC6:Hid (But (fun k=>u.ownBlock=some k∨k=d.g) W1 w6):=hid ((((But.refl No W1).drew).alloc (.cells #[.int .i64 p0,.int .i64 p1,.int .i64 p2,.int .i64 p3,.bool p4] 42)).no.trans ((But.refl _ _).grown hgrow6.out (fun k e=>.inl (.inl e))))
 have e0:=HP6.out.1.1
 have e1:=HP6.out.1.2
 clear hown6 hgrow6 hat6 hback6
 refine hK.out _ _ (KEEP.out _ HC6.out) (fun hHeld=>?_)
 clear hK K
 try simp only[Act.put,List.setIfInBounds_toArray,List.set_cons_zero,List.set_cons_succ]
 refine wpAnyH_take (i:=6) (v:=?va5) rfl (by kernel_rfl) (by kernel_rfl) (by kernel_rfl) (fun _ _ _ h=>h) (Or.inl ⟨by rfl,?hya5⟩) (by assumption) ?resta5
 case hya5=>(intro w hSw;(try dsimp only at hSw);go_simp <;> with_reducible rfl)
 try simp only[Act.put,List.setIfInBounds_toArray,List.set_cons_zero,List.set_cons_succ]
 refine wpAnyH_ready (rs:=[7]) (by kernel_rfl) (by simp) ?_
 refine AllReadyH.cons rfl (fun K hK=>?_) AllReadyH.nil
 go_simp
 refine hK.out _ _ (KEEP.out _ (HC6.out.setCell (p:=⟨d.g,i,none⟩) (.inr rfl) _)) (fun hHeld=>?_)
 clear hK K
 try simp only[Act.put,List.setIfInBounds_toArray,List.set_cons_zero,List.set_cons_succ]
 refine wpAnyH_done (by kernel_rfl) ?_ _
 refine NoPanic.normal ?_
 clear e0 e1 hHeld
 have G3:=hid HP6.out.2.2.2
 clear HPU KEEP OWN
 generalize w6.setCell ⟨d.g,i,none⟩ (.slice A6 (l.length+1) c6)=W3 at G3 HP6 ⊢
 obtain⟨hpl3,hs3,hbs3,kp3,kt3,kq3⟩:=HPL.out W3 _ G3.out.1
 obtain⟨b0,b1,b2,b3,b4,b5,b6,b7,b8⟩:=sys_cells hbs3
 have HB3:=hid HP6.out.2.2.1
 have CC:=hid (CKK.out W3 hs3 hpl3)
 clear hpl3 hs3 hbs3 CKK HPL HP6
 unfold sysV at CC
 go_upto_region 4 with(go_at_call 53;(with_reducible refine CC.out.mono ?_);rintro e w4 ⟨v4,rfl,hb4⟩;have HB4:=hid hb4;clear hb4)
 obtain⟨⟨v5,c5⟩,f5,g5,b5'⟩:=HBK.out W3 w4 A6 c6 HB3.out G3.out.1 G3.out.2 HB4.out
 have kp4:=cell_keep kp3 HB4.out
 have kt4:=cell_keep kt3 HB4.out
 have kq4:=cell_keep kq3 HB4.out
 have HG5:=hid g5
 have HB5:=hid b5'
 clear b0 b1 b2 b3 b4 b5 b6 b7 b8 kp3 kt3 kq3 g5 b5' HBK kq4
 obtain⟨Al,cl,hus⟩:=HUS.out
 subst hus
 go_upto_region 5 with fail
 generalize w4.setCell ⟨d.g,i,none⟩ (.slice Al l.length cl)=W5 at HG5 HB5 ⊢
 have kq5:W5.cell? ⟨d.bq,0,none⟩=some (.pointer (some ⟨d.b,0,none⟩)):=HG5.out.xq.cell rfl
 go_wp2_with (go_at_call 80;(with_reducible refine(NT.out _ HG5.out).mono ?_);rintro e w6 ⟨rfl,h6,b6⟩;have G6:=hid h6;have B6:=hid b6;clear h6 b6)
 go_ret
 exact⟨rfl,G6.out,(HB5.out.mono (fun k _=>HSG.out k)).trans (B6.out.mono (fun k _=>HSB.out k))⟩
end Go.Proofs.YtikcigjbhohboaaGreat.pln
end
