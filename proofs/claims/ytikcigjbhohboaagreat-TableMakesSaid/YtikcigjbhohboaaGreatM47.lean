/- Part 47 of a proof: PeH PeI. -/
import Derived.Test.YtikcigjbhohboaaGreatM46
section
namespace Go.Proofs.YtikcigjbhohboaaGreat.pln
open Go.Lib (hid)
set_option linter.unusedVariables false
set_option linter.unusedSimpArgs false
open Go.ChangeShapes Go.WideShapes Go.ChangeAt Go.RowKit Go.Deep val Go.Sort ter
theorem tiN_stay {s:Sys} {L:List (List Pc)} {i:Nat} {rest left:Int} {m:Bool × Bool} {n:Nat} {x:Nat × Int} (h:(tiN s L i rest left m n).1=some x):∀ k,tiN s L i rest left m (n+k)=tiN s L i rest left m n
 | 0=>rfl
 | k+1=>by
  have ih:=tiN_stay h k
  have e:(tiN s L i rest left m (n+k)).1=some x:=by rw[ih];exact h
  rw[←Nat.add_assoc,tiN]
  rw[e]
  dsimp only
  rw[ih,←h]
def spR (s:Sys) (L:List (List Pc)) (i:Nat) (rest left:Int) (m:Bool × Bool):Option (Nat × Int) × (Bool × Bool):=if (s.ts.getD i ts0).secs ≠ [] then (none,m) else tiN s L i rest left m s.co.toNat
def spS (s:Sys) (L:List (List Pc)) (i:Nat) (rest left:Int) (r:Option (Nat × Int)):List (List Pc) × Int × Int:=match r with
 | some (c,a)=>(addP L i (tiP c a),rest-a,left-a-(s.la-1))
 | none=>(L,rest,left)
theorem biN_le {s:Sys} {L:List (List Pc)} {i:Nat} {c rest left:Int}:∀ (n:Nat) (a b:Int) (m:Bool × Bool),0≤a→a≤max a b→(biN s L i c rest left n a b m).1≤max a b
 | 0,a,b,m,_,h=>h
 | n+1,a,b,m,h0,h=>by
  rw[biN]
  split
  ·next hab =>
   have e:a<(a+b+1)/2∧(a+b+1)/2≤b:=by omega
   split
   ·have:=biN_le n a ((a+b+1)/2-1) m (s:=s) (L:=L) (i:=i) (c:=c) (rest:=rest) (left:=left) h0 (by omega);omega
   ·split
    ·have:=biN_le n ((a+b+1)/2) b (said s (addP L i (tiP c ((a+b+1)/2))) m) (s:=s) (L:=L) (i:=i) (c:=c) (rest:=rest) (left:=left) (by omega) (by omega);omega
    ·have:=biN_le n a ((a+b+1)/2-1) (said s (addP L i (tiP c ((a+b+1)/2))) m) (s:=s) (L:=L) (i:=i) (c:=c) (rest:=rest) (left:=left) h0 (by omega);omega
  ·exact h
theorem tiN_lt {s:Sys} {L:List (List Pc)} {i:Nat} {rest left:Int} {m:Bool × Bool} (hr:1≤rest):∀ {n c:Nat} {a:Int},(tiN s L i rest left m n).1=some (c,a)→a<rest
 | n+1,c,a,h=>by
  rw[tiN] at h
  cases e:(tiN s L i rest left m n).1 with
  | some d=>rw[e] at h;cases h;exact tiN_lt hr e
  | none =>
   rw[e] at h
   dsimp only at h
   split at h
   ·cases h
   ·dsimp only at h
    split at h
    ·cases h
     have:=biN_le (s:=s) (L:=L) (i:=i) (c:=(n:Int)) (rest:=rest) (left:=left) rest.toNat 0 (rest-1) (tiN s L i rest left m n).2 (by omega) (by omega)
     omega
    ·cases h
set_option maxRecDepth 100000 in
set_option maxHeartbeats 8000000 in
theorem split_any {s:Sys} (CK:CheckAt s) {w W:World} {A:Option Addr} {n c i K:Nat} {d:Ad} {vs:List Value} {L:List (List Pc)} {rest left:Int} {m:Bool × Bool} (h:PG w s A n c d i vs L rest left (erM m) W) (hs:RSys w A n c s) (hk:PlOk K n L) (hK:K+1≤1000) (hn:n≤1000) (hi:i<n) (hr:1≤rest∧rest≤2199023255552) (hl : -2199023255552≤left∧left≤2199023255552) (hco:s.co≤100) (hla:1≤s.la∧s.la≤50) :
  Calls Tryz.prog 52 #[.pointer (some ⟨d.b,0,none⟩)] W fun e w'=>e=.returned (.bool (spR s L i rest left m).1.isSome)∧∃ vs',PG w s A n c d i vs' (spS s L i rest left (spR s L i rest left m).1).1 (spS s L i rest left (spR s L i rest left m).1).2.1 (spS s L i rest left (spR s L i rest left m).1).2.2 (erM (spR s L i rest left m).2) w':=by
 have H0:=hid h
 have hnmax:=hs.ts.max
 have ht:s.ts[i]? = some (s.ts[i]'(by rw[hs.ts.len];exact hi)):=List.getElem?_eq_getElem _
 obtain⟨bt,offt,AS,cS,eA,_,_,_,e3,_,_⟩:=((hs.no h.pl.but).ts).at1 ht
 have hgt:s.ts.getD i ts0=s.ts[i]'(by rw[hs.ts.len];exact hi):=getT ht
 have HSR:Hid (spR s L i rest left m=if (s.ts[i]'(by rw[hs.ts.len];exact hi)).secs ≠ [] then (none,m) else tiN s L i rest left m s.co.toNat):=hid (by unfold spR;rw[hgt])
 generalize s.ts[i]'(by rw[hs.ts.len];exact hi)=t at *
 subst eA
 have k0:W.cell? ⟨d.b,0,none⟩=some (.int .i64 s.co):=h.xb.cell rfl
 have k6:W.cell? ⟨d.b,6,none⟩=some (.int .i64 s.la):=h.xb.cell rfl
 have k8:W.cell? ⟨d.b,8,none⟩=some (.slice (some ⟨bt,offt,none⟩) n c):=h.xb.cell rfl
 have k10:W.cell? ⟨d.b,10,none⟩=some (.int .i64 (i:Int)):=h.xb.cell rfl
 have k11:W.cell? ⟨d.b,11,none⟩=some (.int .i64 rest):=h.xb.cell rfl
 have k12:W.cell? ⟨d.b,12,none⟩=some (.int .i64 left):=h.xb.cell rfl
 have CH:Hid (∀ (W1:World) (ft:Int) (c0:Int),PG w s (some ⟨bt,offt,none⟩) n c d i vs L rest left ft W1→Calls Tryz.prog 81 #[.pointer (some ⟨d.b,0,none⟩),.int .i64 c0] W1 fun e w'=>e=.returned (.bool (hasC L i c0))∧But No W1 w'):=hid (fun W1 ft c0 h1=>(has_any h1 hk (by omega) hn hi c0).mono fun e w' ⟨h2,h3⟩=>⟨h2,but_grow h3⟩)
 have CB:Hid (∀ (W1:World) (mm:Bool × Bool) (q:Nat),rest≤left-(s.la-1)→q≤100→PG w s (some ⟨bt,offt,none⟩) n c d i vs L rest left (erM mm) W1→Calls Tryz.prog 83 #[.pointer (some ⟨d.b,0,none⟩),.int .i64 (q:Int)] W1 fun e w'=>e=.returned (.int .i64 (biN s L i q rest left rest.toNat 0 (rest-1) mm).1)∧PG w s (some ⟨bt,offt,none⟩) n c d i vs L rest left (erM (biN s L i q rest left rest.toNat 0 (rest-1) mm).2) w'):=hid (fun W1 mm q hc hq h1=>(budget_any CK h1 hs hk hK hn hi hr hc q hq).mono fun e w' ⟨h2,h3,_⟩=>⟨h2,h3⟩)
 have CT:Hid (∀ (q:Nat) (M:Int) (W1:World),Calls Tryz.prog 84 #[.int .i64 (q:Int),.int .i64 M] W1 fun e w'=>e=.returned (.agg #[.int .i64 (q:Int),.int .i64 M,.int .i64 M,.int .i64 0,.bool true])∧But No W1 w'):=hid (fun q M W1=>tight_any _ _ W1)
 have CA:Hid (∀ (W1:World) (ft:Int) (q:Nat) (M:Int),PG w s (some ⟨bt,offt,none⟩) n c d i vs L rest left ft W1→Calls Tryz.prog 82 #[.pointer (some ⟨d.b,0,none⟩),.agg #[.int .i64 (q:Int),.int .i64 M,.int .i64 M,.int .i64 0,.bool true]] W1 fun e w'=>e=.returned (.tuple #[])∧∃ vs',PG w s (some ⟨bt,offt,none⟩) n c d i vs' (addP L i (tiP q M)) rest left ft w'):=hid (fun W1 ft q M h1=>(add_any h1 hk hK hn hi (tiP q M)).mono fun e w' ⟨h2,vs',h3,_⟩=>⟨h2,vs',h3⟩)
 have HCO:=hid hco
 have hi2:(i:Int)<(n:Int):=by omega
 have hi0:(0:Int)≤(i:Int):=Int.natCast_nonneg i
 have mixed:Tryz.prog.follows .mixedOrders=true:=by kernel_rfl
 have HR:=hid hr
 clear h hs hk hK ht hgt
 obtain⟨lt,hlt⟩:∃ lt,s.la-1=lt:=⟨_,rfl⟩
 have hlb:0≤lt∧lt≤49:=by omega
 have HLT:=hid hlt
 generalize hm8:t.secs.length=m8 at e3
 by_cases hsec:t.secs = []
 ·have hm0:m8=0:=by rw[←hm8,hsec];rfl
  subst hm0
  have HS2:Hid (spR s L i rest left m=tiN s L i rest left m s.co.toNat):=hid (by rw[HSR.out,hsec];simp)
  clear hsec hm8 HSR
  by_cases hsh:left-lt<rest
  ·have hd:decide (left-lt<rest)=true:=decide_eq_true hsh
   have HS3:Hid (spR s L i rest left m=(none,m)):=hid (by rw[HS2.out,tiN_short (by rw[HLT.out];exact hsh)])
   clear HS2
   go_enter Tryz.func52,Tryz.ntmps52
   go_wp2_with fail
   go_quiet (fail)
   go_wp2
   go_ret
   rw[HS3.out]
   exact⟨rfl,vs,by first | exact H0.out | exact H0.out.no (But.refl No _).drew | exact H0.out.no ((But.refl No _).drewN _)⟩
  ·have hd:decide (left-lt<rest)=false:=decide_eq_false hsh
   have hsh2:rest≤left-(s.la-1):=by rw[hlt];omega
   have HSH:=hid hsh2
   clear hsh2
   go_enter Tryz.func52,Tryz.ntmps52
   go_wp2_with fail
   go_quiet (fail)
   go_wp2_with fail
   go_loopw [44] (fun x wr=>∃ q:Nat,x=.int .i64 (q:Int)∧q≤s.co.toNat∧Hid ((tiN s L i rest left m q).1=none)∧Hid (PG w s (some ⟨bt,offt,none⟩) n c d i vs L rest left (erM (tiN s L i rest left m q).2) wr)) (fun x _=>s.co.toNat-(intOf x).toNat)
   case atStart=>exact⟨0,rfl,by omega,rfl,by first | exact H0.out | exact H0.out.no (But.refl No _).drew | exact H0.out.no ((But.refl No _).drewN _)⟩
   case round =>
    clear H0 k0 k6 k8 k10 k11 k12 e3
    obtain⟨q,rfl,hq,HN,HP⟩:=hrel
    have hq0:(0:Int)≤(q:Int):=Int.natCast_nonneg q
    by_cases hqc:q<s.co.toNat
    ·have hqc2:(q:Int)<s.co:=by omega
     have HX:Hid (tiN s L i rest left m (q+1)=if hasC L i q=true then (none,(tiN s L i rest left m q).2) else (if 0<(biN s L i q rest left rest.toNat 0 (rest-1) (tiN s L i rest left m q).2).1 then some (q,(biN s L i q rest left rest.toNat 0 (rest-1) (tiN s L i rest left m q).2).1) else none,(biN s L i q rest left rest.toNat 0 (rest-1) (tiN s L i rest left m q).2).2)):=hid (by rw[tiN,HN.out])
     have HZ:Hid (∀ x,(tiN s L i rest left m (q+1)).1=some x→tiN s L i rest left m s.co.toNat=tiN s L i rest left m (q+1)):=hid (fun x e=>by have:=tiN_stay e (s.co.toNat-(q+1));rwa [show q+1+(s.co.toNat-(q+1))=s.co.toNat by omega] at this)
     have CH4:=hid (CH.out wr _ (q:Int) HP.out)
     have CB4:=hid (fun w1 hb=>CB.out w1 _ q HSH.out (by have:=HCO.out;omega) (HP.out.no hb))
     have HLR:Hid (∀ a,(tiN s L i rest left m (q+1)).1=some (q,a)→a<rest):=hid (fun a e=>tiN_lt HR.out.1 e)
     cases hh:hasC L i (q:Int)with
     | true =>
      rw[hh] at CH4 HX
      go_wp2_with (go_at_call 81;(with_reducible refine CH4.out.mono ?_);rintro e w1 ⟨rfl,hb1⟩;have HB1:=hid hb1;clear hb1)
      go_roundw
      case rel=>exact⟨q+1,by first | rfl | go_num,by omega,by rw[HX.out];rfl,by rw[HX.out];exact HP.out.no HB1.out⟩
      case measure=>simp[intOf];omega
     | false =>
      rw[hh] at CH4 HX
      generalize biN s L i q rest left rest.toNat 0 (rest-1) (tiN s L i rest left m q).2=BR at CB4 HX
      obtain⟨B,mB⟩:=BR
      dsimp only at CB4 HX
      by_cases hB:0<B
      ·have CA5:=hid (fun W1 h1=>CA.out W1 (erM mB) q B h1)
       have CT5:=hid (CT.out q B)
       have HX1:Hid (tiN s L i rest left m (q+1)=(some (q,B),mB)):=hid (by rw[HX.out,if_neg (by simp),if_pos hB])
       have hBr:B<rest:=HLR.out B (by rw[HX1.out])
       go_wp2_with (first | (go_at_call 81;(with_reducible refine CH4.out.mono ?_);rintro e w1 ⟨rfl,hb1⟩;have HB1:=hid hb1;clear hb1) | (go_at_call 83;(with_reducible refine(CB4.out _ HB1.out).mono ?_);rintro e w2 ⟨rfl,h2⟩;have HP2:=hid h2;clear h2) | (go_at_call 84;(with_reducible refine(CT5.out _).mono ?_);rintro e w3 ⟨rfl,hb3⟩;have HP3:=hid (HP2.out.no hb3);clear hb3) | (go_at_call 82;(with_reducible refine(CA5.out _ HP3.out).mono ?_);rintro e w4 ⟨rfl,vs4,h4⟩;have HP4:=hid h4;have y11:w4.cell? ⟨d.b,11,none⟩=some (.int .i64 rest):=h4.xb.cell rfl;have y12:w4.cell? ⟨d.b,12,none⟩=some (.int .i64 left):=h4.xb.cell rfl;have z11:=h4.xb.frozen 11;have z12:=h4.xb.frozen 12;clear h4))
       have G1:=(HP4.out.store (o:=11) (v:=.int .i64 (rest-B)) (rest':=rest-B) (left':=left) (ft':=erM mB) rfl).1
       have G2:=hid (G1.store (o:=12) (v:=.int .i64 (left-(B+lt))) (rest':=rest-B) (left':=left-(B+lt)) (ft':=erM mB) rfl).1
       have HE:Hid (spR s L i rest left m=(some (q,B),mB)):=hid (by rw[HS2.out,HZ.out (q,B) (by rw[HX1.out]),HX1.out])
       have HEL:Hid (left-(B+lt)=left-B-(s.la-1)):=hid (by rw[HLT.out];omega)
       go_ret
       rw[HE.out]
       refine⟨rfl,vs4,?_⟩
       unfold spS
       dsimp only
       rw[←HEL.out]
       exact G2.out
      ·have HX1:Hid (tiN s L i rest left m (q+1)=(none,mB)):=hid (by rw[HX.out,if_neg (by simp),if_neg hB])
       go_wp2_with (first | (go_at_call 81;(with_reducible refine CH4.out.mono ?_);rintro e w1 ⟨rfl,hb1⟩;have HB1:=hid hb1;clear hb1) | (go_at_call 83;(with_reducible refine(CB4.out _ HB1.out).mono ?_);rintro e w2 ⟨rfl,h2⟩;have HP2:=hid h2;clear h2))
       go_roundw
       case rel=>exact⟨q+1,by first | rfl | go_num,by omega,hid (by rw[HX1.out]),by rw[HX1.out];exact HP2.out⟩
       case measure=>simp[intOf];omega
    ·have hqc2:¬(q:Int)<s.co:=by have:=HCO.out;omega
     have hqe:q=s.co.toNat:=by omega
     subst hqe
     have HE:Hid (spR s L i rest left m=(none,(tiN s L i rest left m s.co.toNat).2)):=hid (by rw[HS2.out,←HN.out])
     go_wp2
     go_ret
     rw[HE.out]
     exact⟨rfl,vs,HP.out⟩
 ·have hm0:0<m8:=by rw[←hm8];exact List.length_pos_iff.2 hsec
  have hm1:(0:Int)<(m8:Int):=by omega
  have hd:decide ((m8:Int) > 0)=true:=decide_eq_true hm1
  have HS3:Hid (spR s L i rest left m=(none,m)):=hid (by rw[HSR.out,if_pos hsec])
  clear hsec hm8 HSR
  go_enter Tryz.func52,Tryz.ntmps52
  go_wp2_with fail
  go_quiet (fail)
  go_wp2
  go_ret
  rw[HS3.out]
  exact⟨rfl,vs,by first | exact H0.out | exact H0.out.no (But.refl No _).drew | exact H0.out.no ((But.refl No _).drewN _)⟩
end Go.Proofs.YtikcigjbhohboaaGreat.pln
end
section
namespace Go.Proofs.YtikcigjbhohboaaGreat.pln
open Go.Lib (hid)
set_option linter.unusedVariables false
set_option linter.unusedSimpArgs false
open Go.ChangeShapes Go.WideShapes Go.ChangeAt Go.RowKit Go.Deep val Go.Sort ter
set_option maxRecDepth 100000 in
set_option maxHeartbeats 8000000 in
theorem begin_any {w W:World} {s:Sys} {A:Option Addr} {n c i g:Nat} {vs:List Value} {L:List (List Pc)} {t:Tsk} (hp:RoP w W (.slice (some ⟨g,0,none⟩) n n) vs L) (hvs:vs.length=n) (hs:RSys w A n c s) (ht:s.ts[i]? = some t) (hn:n≤1000) :
  Calls Tryz.prog 50 #[sysV s A n c,.slice (some ⟨g,0,none⟩) n n,.int .i64 (i:Int)] W fun e w'=>∃ d:Ad,d.g=g∧e=.returned (.pointer (some ⟨d.b,0,none⟩))∧PG w s A n c d i vs L t.w t.d 12 w':=by
 have hin:i<n:=by rw[←hs.ts.len];exact(List.getElem?_eq_some_iff.1 ht).1
 have hi2:(i:Int)<(n:Int):=by omega
 have hi0:(0:Int)≤(i:Int):=Int.natCast_nonneg i
 have HW0:=hid hp.but.size
 have HP:=hid hp
 have HT:=hid (fun W' hb=>((hs.no hp.but).ts.no (w':=W') hb).at1 ht)
 have HVS:=hid hvs
 clear hp hs ht
 unfold sysV
 go_enter Tryz.func50,Tryz.ntmps50
 go_upto_region 1 with fail
 obtain⟨W3,hW3⟩:∃ W3,((W.alloc (.cells #[.int .i64 s.co,.int .i64 s.po,.int .i64 s.pr,.int .i64 s.re,.int .i64 s.sw,.int .i64 s.fi,.int .i64 s.la,.int .i64 s.rs,.slice A n c] 24)).alloc (.cells #[.slice (some ⟨g,0,none⟩) n n] 25)).alloc (.cells #[.int .i64 (i:Int)] 3)=W3:=⟨_,rfl⟩
 have hb3:But No W W3:=by rw[←hW3];exact(((But.refl No W).alloc _).alloc _).alloc _
 have hx:Blk W3 W.heap.size (boxS s A n c) 24:=by rw[←hW3];exact((Blk.new W (boxS s A n c) 24).alloc _).alloc _
 have hy:Blk W3 (W.heap.size+1) #[.slice (some ⟨g,0,none⟩) n n] 25:=by rw[←hW3];exact(blk2 W _ _ _).alloc _
 have hz:Blk W3 (W.heap.size+1+1) #[.int .i64 (i:Int)] 3:=by rw[←hW3];have:=blk2 (W.alloc (.cells #[.int .i64 s.co,.int .i64 s.po,.int .i64 s.pr,.int .i64 s.re,.int .i64 s.sw,.int .i64 s.fi,.int .i64 s.la,.int .i64 s.rs,.slice A n c] 24)) (.cells #[.slice (some ⟨g,0,none⟩) n n] 25) #[.int .i64 (i:Int)] 3;simpa using this
 rw[hW3]
 obtain⟨bt,offt,AS,cS,eA,e0,e1,e2,e3,_,_⟩:=HT.out W3 hb3
 subst eA
 obtain⟨b0,b1,b2,b3,b4,b5,b6,b7,b8⟩:=sys_cells hx
 have kp:=hy.cell (o:=0) rfl
 have kt:=hz.cell (o:=0) rfl
 have HB3:=hid hb3
 have HX:=hid hx
 have HY:=hid hy
 have HZ:=hid hz
 clear hW3 hb3 hx hy hz HT
 obtain⟨tp,td,tw,tsec⟩:=t
 dsimp only at e0 e1 e2 e3 ⊢
 go_upto_region 2 with fail
 clear b0 b1 b2 b3 b4 b5 b6 b7 b8 kp kt e0 e1 e2 e3
 obtain⟨W4,hW4⟩:∃ W4,W3.alloc (.cells #[.int .i64 tp,.int .i64 td,.int .i64 tw,.slice AS tsec.length cS] 97)=W4:=⟨_,rfl⟩
 have hb4:But No W3 W4:=by rw[←hW4];exact(But.refl No W3).alloc _
 have ht4:Blk W4 W3.heap.size #[.int .i64 tp,.int .i64 td,.int .i64 tw,.slice AS tsec.length cS] 97:=by rw[←hW4];exact Blk.new W3 _ _
 rw[hW4]
 have HB4:=hid (HB3.out.trans hb4)
 have HX4:=hid (HX.out.but hb4 (fun f=>f))
 have HY4:=hid (HY.out.but hb4 (fun f=>f))
 have HZ4:=hid (HZ.out.but hb4 (fun f=>f))
 obtain⟨b0,b1,b2,b3,b4,b5,b6,b7,b8⟩:=sys_cells HX4.out
 have kp:=HY4.out.cell (o:=0) rfl
 have kt:=HZ4.out.cell (o:=0) rfl
 have e1:=ht4.cell (o:=1) rfl
 have e2:=ht4.cell (o:=2) rfl
 clear hW4 hb4 ht4 HX HY HZ HB3
 go_upto_region 3 with fail
 clear b0 b1 b2 b3 b4 b5 b6 b7 b8 kp kt e1 e2
 obtain⟨W5,hW5⟩:∃ W5,(W4.alloc (.cells #[.int .i64 s.co,.int .i64 s.po,.int .i64 s.pr,.int .i64 s.re,.int .i64 s.sw,.int .i64 s.fi,.int .i64 s.la,.int .i64 s.rs,.slice (some ⟨bt,offt,none⟩) n c,.slice (some ⟨g,0,none⟩) n n,.int .i64 (i:Int),.int .i64 tw,.int .i64 td,.nilFunc,.int .i64 12] 103)).alloc (.cells #[.pointer (some ⟨W4.heap.size,0,none⟩)] 99)=W5:=⟨_,rfl⟩
 have hb5:But No W4 W5:=by rw[←hW5];exact((But.refl No W4).alloc _).alloc _
 have hbb:Blk W5 W4.heap.size #[.int .i64 s.co,.int .i64 s.po,.int .i64 s.pr,.int .i64 s.re,.int .i64 s.sw,.int .i64 s.fi,.int .i64 s.la,.int .i64 s.rs,.slice (some ⟨bt,offt,none⟩) n c,.slice (some ⟨g,0,none⟩) n n,.int .i64 (i:Int),.int .i64 tw,.int .i64 td,.nilFunc,.int .i64 12] 103:=by rw[←hW5];exact(Blk.new W4 _ _).alloc _
 have hbq:Blk W5 (W4.heap.size+1) #[.pointer (some ⟨W4.heap.size,0,none⟩)] 99:=by rw[←hW5];exact blk2 W4 _ _ _
 rw[hW5]
 have HD:Hid (∀ f,f=Value.func (.func 79) #[] #[.pointer (some ⟨W.heap.size+1,0,none⟩),.pointer (some ⟨W.heap.size+1+1,0,none⟩),.pointer (some ⟨W.heap.size,0,none⟩),.pointer (some ⟨W4.heap.size+1,0,none⟩)]→PG w s (some ⟨bt,offt,none⟩) n c ⟨W.heap.size,W.heap.size+1,W.heap.size+1+1,W4.heap.size+1,W4.heap.size,g⟩ i vs L tw td 12 (W5.setCell ⟨W4.heap.size,13,none⟩ f)):=hid (fun f hf=>by
  subst hf
  have z4:=HB4.out.size
  have z0:=HW0.out
  have l1:=HX4.out.lt
  have l2:=HY4.out.lt
  have l3:=HZ4.out.lt
  have HB6:But No W (W5.setCell ⟨W4.heap.size,13,none⟩ (.func (.func 79) #[] #[.pointer (some ⟨W.heap.size+1,0,none⟩),.pointer (some ⟨W.heap.size+1+1,0,none⟩),.pointer (some ⟨W.heap.size,0,none⟩),.pointer (some ⟨W4.heap.size+1,0,none⟩)])):=(HB4.out.trans hb5).setNew (p:=⟨W4.heap.size,13,none⟩) z4 _
  exact⟨HP.out.no HB6,HVS.out,(HX4.out.but hb5 (fun f=>f)).other (a:=⟨W4.heap.size,13,none⟩) (by dsimp only;omega) _,(HY4.out.but hb5 (fun f=>f)).other (a:=⟨W4.heap.size,13,none⟩) (by dsimp only;omega) _,(HZ4.out.but hb5 (fun f=>f)).other (a:=⟨W4.heap.size,13,none⟩) (by dsimp only;omega) _,hbq.other (a:=⟨W4.heap.size,13,none⟩) (by dsimp only;omega) _,hbb.set 13 _,by dsimp only;omega⟩)
 have kq:=hbq.cell (o:=0) rfl
 have kb:W5.cell? ⟨W4.heap.size,13,none⟩=some .nilFunc:=hbb.cell (o:=13) rfl
 have fb:=hbb.frozen 13
 have hst:Sem.run Tryz.prog (store ⟨W4.heap.size,13,none⟩ (.func (.func 79) #[] #[.pointer (some ⟨W.heap.size+1,0,none⟩),.pointer (some ⟨W.heap.size+1+1,0,none⟩),.pointer (some ⟨W.heap.size,0,none⟩),.pointer (some ⟨W4.heap.size+1,0,none⟩)])) W5=.ok () (W5.setCell ⟨W4.heap.size,13,none⟩ (.func (.func 79) #[] #[.pointer (some ⟨W.heap.size+1,0,none⟩),.pointer (some ⟨W.heap.size+1+1,0,none⟩),.pointer (some ⟨W.heap.size,0,none⟩),.pointer (some ⟨W4.heap.size+1,0,none⟩)])):=(run_store Tryz.prog W5 _ _ .plain rfl).trans (by simp[stored,kb,fb])
 clear hb5 hbb hbq hW5
 go_wp2
 go_ret
 exact⟨⟨W.heap.size,W.heap.size+1,W.heap.size+1+1,W4.heap.size+1,W4.heap.size,g⟩,rfl,rfl,HD.out _ rfl⟩
end Go.Proofs.YtikcigjbhohboaaGreat.pln
end
