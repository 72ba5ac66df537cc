/- Part 11 of a proof: TbE TbP. -/
import Derived.Deep.DeepCutAuto
import Derived.Laws.OwnMore
import Derived.OneCell
import Derived.Test.YtikcigjbhohboaaGreatM04
import Derived.Test.YtikcigjbhohboaaGreatM08
import Derived.Test.YtikcigjbhohboaaGreatM09
section
namespace Go.Proofs.YtikcigjbhohboaaGreat.tbl
open Go.Lib (hid)
open Go.ChangeShapes Go.WideShapes Go.ChangeAt Go.RowKit Go.Deep val pln
set_option maxRecDepth 100000 in
theorem neq_run (x y:Pc) (W:World):(binOp BinOp.neq 42 (.agg #[.int .i64 x.co,.int .i64 x.bu,.int .i64 x.de,.int .i64 x.pr,.bool x.ti]) (.agg #[.int .i64 y.co,.int .i64 y.bu,.int .i64 y.de,.int .i64 y.pr,.bool y.ti])).run Tryz.prog W=.ok (.bool (!decide (x=y))) W:=by
 obtain⟨x0,x1,x2,x3,x4⟩:=x
 obtain⟨y0,y1,y2,y3,y4⟩:=y
 simp only[Pc.mk.injEq]
 by_cases e0:x0=y0 <;> by_cases e1:x1=y1 <;> by_cases e2:x2=y2 <;> by_cases e3:x3=y3 <;> by_cases e4:x4=y4 <;> simp[e0,e1,e2,e3,e4,go_sem]
set_option maxRecDepth 100000 in
set_option maxHeartbeats 4000000 in
theorem equalP_any (A B:Option Addr) (n m c d:Nat) (l r:List Pc) (w:World) (hz:RPc w A n l) (ht:RPc w B m r) :
  Calls Tryz.prog 44 #[.slice A n c,.slice B m d] w fun e w'=>e=.returned (.bool (decide (l=r)))∧But No w w':=by
 have hlz:=hz.len
 have hlt:=ht.len
 have hmx:=hz.max
 have hmy:=ht.max
 by_cases hnm:n=m
 ·subst hnm
  have HL:Hid (l.length=n∧r.length=n):=⟨hlz,hlt⟩
  have HZ:=hid hz
  have HT:=hid ht
  clear hz ht hlz hlt
  have d1:((n:Int) != (n:Int))=false:=by simp
  go_enter Tryz.func44,Tryz.ntmps44
  go_wp2
  go_loopw [13] (fun i wr=>∃ k:Nat,k≤n∧i=.int .i64 k∧Hid (∀ j,j<k→l[j]? = r[j]?)∧Hid (But No w wr)) (fun i _=>n-(intOf i).toNat)
  case atStart=>exact⟨0,by omega,rfl,fun j hj=>absurd hj (by omega),But.refl _ _⟩
  case round =>
   obtain⟨k,hk,rfl,hall,hbw⟩:=hrel
   by_cases hlt:k<n
   ·obtain⟨x,hx⟩:∃ x,l[k]? = some x:=⟨_,List.getElem?_eq_getElem (by rw[HL.out.1];exact hlt)⟩
    obtain⟨y,hy⟩:∃ y,r[k]? = some y:=⟨_,List.getElem?_eq_getElem (by rw[HL.out.2];exact hlt)⟩
    obtain⟨b1,off1,rfl,hb1,p0,p1,p2,p3,p4⟩:=(HZ.out.no hbw.out).at1 hx
    obtain⟨b3,off3,rfl,hb3,q0,q1,q2,q3,q4⟩:=(HT.out.no hbw.out).at1 hy
    have kn':(k:Int)<(n:Int):=by omega
    have hk0:(0:Int)≤(k:Int):=Int.natCast_nonneg k
    have hop:=neq_run x y
    by_cases hxy:x=y
    ·have HEQ:Hid (∀ j,j<k+1→l[j]? = r[j]?):=hid (fun j hj=>by
      by_cases e:j=k
      ·subst e;rw[hx,hy,hxy]
      ·exact hall.out j (by omega))
     rw[decide_eq_true hxy] at hop
     clear hx hy hxy
     go_wp2_with fail
     go_quiet (fail)
     go_wp2
     go_roundw
     case rel=>exact⟨k+1,by omega,by go_num,HEQ,hid (hbw.out.drewN _)⟩
     case measure=>simp[intOf];omega
    ·have HF:Hid (decide (l=r)=false):=hid (decide_eq_false (row_ne hx hy hxy))
     rw[decide_eq_false hxy] at hop
     clear hx hy hxy
     go_wp2_with fail
     go_quiet (fail)
     go_wp2
     go_ret
     exact⟨retb HF.out.symm,hbw.out.drewN _⟩
   ·have hE:Hid (decide (l=r)=true):=hid (decide_eq_true (any_eq (by rw[HL.out.1,HL.out.2]) (fun j hj=>hall.out j (by have:=HL.out.1;omega))))
    go_wp2
    go_ret
    exact⟨retb hE.out.symm,hbw.out⟩
 ·have hE:Hid (decide (l=r)=false):=by show _=_;rw[decide_eq_false_iff_not];rintro rfl;omega
  have hne:((n:Int) != (m:Int))=true:=by simp;omega
  clear hz ht hlz hlt
  go_enter Tryz.func44,Tryz.ntmps44
  go_wp2
  all_goals go_ret
  all_goals exact⟨retb hE.out.symm,But.refl _ _⟩
set_option maxRecDepth 100000 in
set_option maxHeartbeats 4000000 in
theorem eqfP_any (A B:Option Addr) (n m c d:Nat) (L M:List (List Pc)) (w:World) (hz:RPl w A n L) (ht:RPl w B m M) :
  Calls Tryz.prog 43 #[.slice A n c,.slice B m d,.func (.func 44) #[] #[]] w fun e w'=>e=.returned (.bool (decide (L=M)))∧But No w w':=by
 have hlz:=hz.len
 have hlt:=ht.len
 have hmx:=hz.max
 have hmy:=ht.max
 by_cases hnm:n=m
 ·subst hnm
  have HL:Hid (L.length=n∧M.length=n):=⟨hlz,hlt⟩
  have HZ:=hid hz
  have HT:=hid ht
  clear hz ht hlz hlt
  have d1:((n:Int) != (n:Int))=false:=by simp
  go_enter Tryz.func43,Tryz.ntmps43
  go_wp2
  go_loopw [17] (fun i wr=>∃ k:Nat,k≤n∧i=.int .i64 k∧Hid (∀ j,j<k→L[j]? = M[j]?)∧Hid (But No w wr)) (fun i _=>n-(intOf i).toNat)
  case atStart=>exact⟨0,by omega,rfl,fun j hj=>absurd hj (by omega),But.refl _ _⟩
  case round =>
   obtain⟨k,hk,rfl,hall,hbw⟩:=hrel
   by_cases hlt:k<n
   ·obtain⟨x,hx⟩:∃ x,L[k]? = some x:=⟨_,List.getElem?_eq_getElem (by rw[HL.out.1];exact hlt)⟩
    obtain⟨y,hy⟩:∃ y,M[k]? = some y:=⟨_,List.getElem?_eq_getElem (by rw[HL.out.2];exact hlt)⟩
    obtain⟨b1,off1,A1,c1,rfl,hb1,p0,_,hp⟩:=(HZ.out.no hbw.out).at1 hx
    obtain⟨b3,off3,A3,c3,rfl,hb3,q0,_,hq⟩:=(HT.out.no hbw.out).at1 hy
    have kn':(k:Int)<(n:Int):=by omega
    have hk0:(0:Int)≤(k:Int):=Int.natCast_nonneg k
    have CE:=hid (fun W (hb:But No wr W)=>equalP_any A1 A3 x.length y.length c1 c3 x y W (hp.no hb) (hq.no hb))
    clear hp hq
    by_cases hxy:x=y
    ·have HEQ:Hid (∀ j,j<k+1→L[j]? = M[j]?):=hid (fun j hj=>by
      by_cases e:j=k
      ·subst e;rw[hx,hy,hxy]
      ·exact hall.out j (by omega))
     rw[decide_eq_true hxy] at CE
     clear hx hy hxy
     go_wp2_with (go_at_call 44;refine(CE.out _ (But.refl _ _)).mono ?_;rintro e w2 ⟨rfl,hb2⟩;have HB2:=hid hb2;clear hb2)
     go_roundw
     case rel=>exact⟨k+1,by omega,by go_num,HEQ,hid (hbw.out.trans HB2.out)⟩
     case measure=>simp[intOf];omega
    ·have HF:Hid (decide (L=M)=false):=hid (decide_eq_false (row_ne hx hy hxy))
     rw[decide_eq_false hxy] at CE
     clear hx hy hxy
     go_wp2_with (go_at_call 44;refine(CE.out _ (But.refl _ _)).mono ?_;rintro e w2 ⟨rfl,hb2⟩;have HB2:=hid hb2;clear hb2)
     go_ret
     exact⟨retb HF.out.symm,hbw.out.trans HB2.out⟩
   ·have hE:Hid (decide (L=M)=true):=hid (decide_eq_true (any_eq (by rw[HL.out.1,HL.out.2]) (fun j hj=>hall.out j (by have:=HL.out.1;omega))))
    go_wp2
    go_ret
    exact⟨retb hE.out.symm,hbw.out⟩
 ·have hE:Hid (decide (L=M)=false):=by show _=_;rw[decide_eq_false_iff_not];rintro rfl;omega
  have hne:((n:Int) != (m:Int))=true:=by simp;omega
  clear hz ht hlz hlt
  go_enter Tryz.func43,Tryz.ntmps43
  go_wp2
  all_goals go_ret
  all_goals exact⟨retb hE.out.symm,But.refl _ _⟩
theorem getD_at {l:List Int} {k:Nat} {x:Int} (h:l[k]? = some x):l.getD k 0=x:=by simp[List.getD,h]
set_option maxRecDepth 100000 in
set_option maxHeartbeats 4000000 in
theorem equalI_any (A B:Option Addr) (n m c d:Nat) (l r:List Int) (w:World) (hz:Rl w A n l) (ht:Rl w B m r) :
  Calls Tryz.prog 47 #[.slice A n c,.slice B m d] w fun e w'=>e=.returned (.bool (decide (l=r)))∧But No w w':=by
 have hlz:=hz.len
 have hlt:=ht.len
 have hmx:=hz.max
 have hmy:=ht.max
 by_cases hnm:n=m
 ·subst hnm
  have HL:Hid (l.length=n∧r.length=n):=⟨hlz,hlt⟩
  have HZ:=hid hz
  have HT:=hid ht
  clear hz ht hlz hlt
  have d1:((n:Int) != (n:Int))=false:=by simp
  go_enter Tryz.func47,Tryz.ntmps47
  go_wp2
  go_loopw [13] (fun i wr=>∃ k:Nat,k≤n∧i=.int .i64 k∧Hid (∀ j,j<k→l[j]? = r[j]?)∧Hid (But No w wr)) (fun i _=>n-(intOf i).toNat)
  case atStart=>exact⟨0,by omega,rfl,fun j hj=>absurd hj (by omega),But.refl _ _⟩
  case round =>
   obtain⟨k,hk,rfl,hall,hbw⟩:=hrel
   by_cases hlt:k<n
   ·obtain⟨x,hx⟩:∃ x,l[k]? = some x:=⟨_,List.getElem?_eq_getElem (by rw[HL.out.1];exact hlt)⟩
    obtain⟨y,hy⟩:∃ y,r[k]? = some y:=⟨_,List.getElem?_eq_getElem (by rw[HL.out.2];exact hlt)⟩
    obtain⟨b1,off1,rfl,hb1,p0⟩:=(HZ.out.no hbw.out).at_ (by omega)
    obtain⟨b3,off3,rfl,hb3,q0⟩:=(HT.out.no hbw.out).at_ (by omega)
    replace p0:=p0 k hlt
    replace q0:=q0 k hlt
    rw[getD_at hx] at p0
    rw[getD_at hy] at q0
    have kn':(k:Int)<(n:Int):=by omega
    have hk0:(0:Int)≤(k:Int):=Int.natCast_nonneg k
    by_cases hxy:x=y
    ·have HEQ:Hid (∀ j,j<k+1→l[j]? = r[j]?):=hid (fun j hj=>by
      by_cases e:j=k
      ·subst e;rw[hx,hy,hxy]
      ·exact hall.out j (by omega))
     subst hxy
     have hop:(x != x)=false:=by simp
     clear hx hy
     go_wp2_with fail
     go_quiet (fail)
     go_wp2
     go_roundw
     case rel=>exact⟨k+1,by omega,by go_num,HEQ,hid (hbw.out.drewN _)⟩
     case measure=>simp[intOf];omega
    ·have HF:Hid (decide (l=r)=false):=hid (decide_eq_false (row_ne hx hy hxy))
     have hop:(x != y)=true:=by simp[hxy]
     clear hx hy hxy
     go_wp2_with fail
     go_quiet (fail)
     go_wp2
     go_ret
     exact⟨retb HF.out.symm,hbw.out.drewN _⟩
   ·have hE:Hid (decide (l=r)=true):=hid (decide_eq_true (any_eq (by rw[HL.out.1,HL.out.2]) (fun j hj=>hall.out j (by have:=HL.out.1;omega))))
    go_wp2
    go_ret
    exact⟨retb hE.out.symm,hbw.out⟩
 ·have hE:Hid (decide (l=r)=false):=by show _=_;rw[decide_eq_false_iff_not];rintro rfl;omega
  have hne:((n:Int) != (m:Int))=true:=by simp;omega
  clear hz ht hlz hlt
  go_enter Tryz.func47,Tryz.ntmps47
  go_wp2
  all_goals go_ret
  all_goals exact⟨retb hE.out.symm,But.refl _ _⟩
set_option maxRecDepth 100000 in
set_option maxHeartbeats 4000000 in
theorem eqfI_any (A B:Option Addr) (n m c d:Nat) (L M:List (List Int)) (w:World) (hz:RNs w A n L) (ht:RNs w B m M) :
  Calls Tryz.prog 46 #[.slice A n c,.slice B m d,.func (.func 47) #[] #[]] w fun e w'=>e=.returned (.bool (decide (L=M)))∧But No w w':=by
 have hlz:=hz.len
 have hlt:=ht.len
 have hmx:=hz.max
 have hmy:=ht.max
 by_cases hnm:n=m
 ·subst hnm
  have HL:Hid (L.length=n∧M.length=n):=⟨hlz,hlt⟩
  have HZ:=hid hz
  have HT:=hid ht
  clear hz ht hlz hlt
  have d1:((n:Int) != (n:Int))=false:=by simp
  go_enter Tryz.func46,Tryz.ntmps46
  go_wp2
  go_loopw [17] (fun i wr=>∃ k:Nat,k≤n∧i=.int .i64 k∧Hid (∀ j,j<k→L[j]? = M[j]?)∧Hid (But No w wr)) (fun i _=>n-(intOf i).toNat)
  case atStart=>exact⟨0,by omega,rfl,fun j hj=>absurd hj (by omega),But.refl _ _⟩
  case round =>
   obtain⟨k,hk,rfl,hall,hbw⟩:=hrel
   by_cases hlt:k<n
   ·obtain⟨x,hx⟩:∃ x,L[k]? = some x:=⟨_,List.getElem?_eq_getElem (by rw[HL.out.1];exact hlt)⟩
    obtain⟨y,hy⟩:∃ y,M[k]? = some y:=⟨_,List.getElem?_eq_getElem (by rw[HL.out.2];exact hlt)⟩
    obtain⟨b1,off1,A1,c1,rfl,hb1,p0,_,hp⟩:=(HZ.out.no hbw.out).at1 hx
    obtain⟨b3,off3,A3,c3,rfl,hb3,q0,_,hq⟩:=(HT.out.no hbw.out).at1 hy
    have kn':(k:Int)<(n:Int):=by omega
    have hk0:(0:Int)≤(k:Int):=Int.natCast_nonneg k
    have CE:=hid (fun W (hb:But No wr W)=>equalI_any A1 A3 x.length y.length c1 c3 x y W (hp.no hb) (hq.no hb))
    clear hp hq
    by_cases hxy:x=y
    ·have HEQ:Hid (∀ j,j<k+1→L[j]? = M[j]?):=hid (fun j hj=>by
      by_cases e:j=k
      ·subst e;rw[hx,hy,hxy]
      ·exact hall.out j (by omega))
     rw[decide_eq_true hxy] at CE
     clear hx hy hxy
     go_wp2_with (go_at_call 47;refine(CE.out _ (But.refl _ _)).mono ?_;rintro e w2 ⟨rfl,hb2⟩;have HB2:=hid hb2;clear hb2)
     go_roundw
     case rel=>exact⟨k+1,by omega,by go_num,HEQ,hid (hbw.out.trans HB2.out)⟩
     case measure=>simp[intOf];omega
    ·have HF:Hid (decide (L=M)=false):=hid (decide_eq_false (row_ne hx hy hxy))
     rw[decide_eq_false hxy] at CE
     clear hx hy hxy
     go_wp2_with (go_at_call 47;refine(CE.out _ (But.refl _ _)).mono ?_;rintro e w2 ⟨rfl,hb2⟩;have HB2:=hid hb2;clear hb2)
     go_ret
     exact⟨retb HF.out.symm,hbw.out.trans HB2.out⟩
   ·have hE:Hid (decide (L=M)=true):=hid (decide_eq_true (any_eq (by rw[HL.out.1,HL.out.2]) (fun j hj=>hall.out j (by have:=HL.out.1;omega))))
    go_wp2
    go_ret
    exact⟨retb hE.out.symm,hbw.out⟩
 ·have hE:Hid (decide (L=M)=false):=by show _=_;rw[decide_eq_false_iff_not];rintro rfl;omega
  have hne:((n:Int) != (m:Int))=true:=by simp;omega
  clear hz ht hlz hlt
  go_enter Tryz.func46,Tryz.ntmps46
  go_wp2
  all_goals go_ret
  all_goals exact⟨retb hE.out.symm,But.refl _ _⟩
end Go.Proofs.YtikcigjbhohboaaGreat.tbl
end
section
namespace Go.Proofs.YtikcigjbhohboaaGreat.tbl
open Go.Lib (hid)
open Go.ChangeShapes Go.WideShapes Go.ChangeAt Go.RowKit Go.Deep val pln
def endV (l:List Pc):Bool:=decide (l ≠ []) && !(l.getD (l.length-1) pc0).ti
theorem ends_any (A:Option Addr) (n c:Nat) (l:List Pc) (w:World) (hz:RPc w A n l) :
  Calls Tryz.prog 48 #[.slice A n c] w fun e w'=>e=.returned (.bool (endV l))∧w'=w:=by
 have hlz:=hz.len
 have hmx:=hz.max
 by_cases h0:n=0
 ·subst h0
  have e:endV l=false:=by unfold endV;rw[List.eq_nil_of_length_eq_zero hlz];rfl
  rw[e]
  have d1:decide ((0:Int)<((0:Nat):Int))=false:=by decide
  clear hz hlz
  go_enter Tryz.func48,Tryz.ntmps48
  go_wp2
  go_ret
  exact⟨rfl,rfl⟩
 ·obtain⟨k,rfl⟩:∃ k,n=k+1:=⟨n-1,by omega⟩
  obtain⟨x,hx⟩:∃ x,l[k]? = some x:=⟨_,List.getElem?_eq_getElem (by omega)⟩
  have e:endV l = !x.ti:=by
   unfold endV
   rw[show l.length-1=k by omega,getD_some hx,decide_eq_true (by rintro rfl;simp at hx)];rfl
  rw[e]
  obtain⟨b,off,rfl,hb,p0,p1,p2,p3,p4⟩:=hz.at1 hx
  have d1:decide ((0:Int)<((k+1:Nat):Int))=true:=by simp
  have d2:((k+1:Nat):Int)-1=(k:Int):=by omega
  have d3:(k:Int)<((k+1:Nat):Int):=by omega
  have hk0:(0:Int)≤(k:Int):=Int.natCast_nonneg k
  generalize k+1=m at d1 d2 d3
  clear hz hlz hx
  go_enter Tryz.func48,Tryz.ntmps48
  go_wp2
  go_ret
  exact⟨rfl,rfl⟩
theorem vals_made {w:World} {e:TypeId} {g n:Nat} {v:Value} (h:w.ownsRow 0 e 1 (.slice (some ⟨g,0,none⟩) n n) n (madeCells v.cells (n*1)).toList) (hv:v.cells = #[v]):Vals w g e n (fun _=>v):=by
 rw[hv] at h
 have e1:(madeCells #[v] (n*1)).toList=List.replicate n v:=by rw[Nat.mul_one];exact toList_madeCells_one _ n
 rw[e1] at h
 obtain⟨_,h2⟩:=h
 rcases h2 with⟨h2,_⟩ | ⟨g',cap,cur,hx,_,hh,_,_,hs,ht⟩
 ·cases h2
 ·cases hx
  have hc:cur=(List.replicate n v).toArray:=by
   have:cur.toList=List.replicate n v:=by rw[←ht,List.take_of_length_le (by simp[hs])]
   rw[←this]
  unfold Vals Blk
  rw[hh,hc]
  congr 2
  simp
  apply Array.ext <;> simp
def slE (w:World) (b off:Nat) (j:Nat):Value:=(w.cell? ⟨b,off+j*2,none⟩).getD (.slice none 0 0)
set_option maxRecDepth 100000 in
set_option maxHeartbeats 4000000 in
theorem planOf_any (A:Option Addr) (n c:Nat) (L:List En) (w:World) (h:REn w A n L) (hn:n*24≤140737488351232) :
  Calls Tryz.prog 42 #[.slice A n c] w fun e w'=>∃ g,e=.returned (.slice (some ⟨g,0,none⟩) n n)∧But No w w'∧RPl w' (some ⟨g,0,none⟩) n (plE L):=by
 have HN:=hid h.len
 have HZ:=hid h
 obtain⟨i38,hi0,hz0,hz1,hz2⟩:=info_parts (e:=38) (show _=some (some (.slice none 0 0),1,24)by kernel_rfl)
 have I38:Hid (Tryz.prog.info? 38=some i38∧i38.zero=some (.slice none 0 0)∧i38.size=1∧i38.bytes=24):=⟨hi0,hz0,hz1,hz2⟩
 clear hi0 hz0 hz1 hz2
 have hmx:=h.max
 clear h
 go_enter Tryz.func42,Tryz.ntmps42
 go_upto_region 2 with(at_make;refine wpList_make_full _ rfl _ _ 25 rfl 0 38 i38 _ 1 Tryz.underlying25 I38.out.1 I38.out.2.1 I38.out.2.2.1 .i64 .i64 _ _ n rfl rfl rfl rfl (by rw[I38.out.2.2.2];omega) (by unfold maxLen;omega) (Nat.zero_le _) ?_;intro w3 hown hgrow;have HB3:=hid ((But.refl No w).grown hgrow (fun k e=>by cases e));have HV3:=hid (fun _:0<n=>vals_made hown rfl);have hg3:=(World.ownsRow.lt hown _ rfl).2;clear hown hgrow)
 obtain⟨g,hg⟩:∃ g,w.heap.size=g:=⟨_,rfl⟩
 rw[hg] at HV3 hg3 ⊢
 have HG:=hid hg
 clear hg
 go_wp2
 go_loopw [11] (fun i wr=>∃ k:Nat,k≤n∧i=.int .i64 k∧Hid (But No w wr)∧Hid (0<n→∀ b off,A=some ⟨b,off,none⟩→Vals wr g 38 n (fun j=>if j<k then slE w b off j else .slice none 0 0))) (fun i _=>n-(intOf i).toNat)
 case atStart=>exact⟨0,by omega,rfl,HB3.out,hid (fun h0 b off _=>(HV3.out h0).congr (fun j _=>by simp))⟩
 case round =>
  obtain⟨k,hk,rfl,hbw,hv⟩:=hrel
  have hk0:(0:Int)≤(k:Int):=Int.natCast_nonneg k
  by_cases hlt:k<n
  ·have kn':(k:Int)<(n:Int):=by omega
   obtain⟨x,hx⟩:∃ x,L[k]? = some x:=⟨_,List.getElem?_eq_getElem (by rw[HN.out];exact hlt)⟩
   obtain⟨b,off,A1,c1,rfl,hb,p0,p1,_,hp⟩:=HZ.out.at1 hx
   have HS:Hid (slE w b off k=.slice A1 x.ps.length c1):=hid (by unfold slE;rw[p0];rfl)
   replace p0:=cell_keep p0 hbw.out
   replace p1:=cell_keep p1 hbw.out
   have HV:=hid (hv.out (by omega) b off rfl)
   have hgn:g<wr.heap.size:=HV.out.lt
   have hc:=HV.out.cell hlt
   have hf:=HV.out.frozen k
   have hgw:w.heap.size≤g:=by rw[←HG.out];exact Nat.le_refl _
   go_wp2
   refine⟨⟨k+1,by omega,by go_num,hid ((hbw.out.setNew hgw _).alloc _),hid (fun h0 b' off' e=>?_)⟩,by simp[intOf];omega⟩
   cases e
   refine((HV.out.set (.slice A1 x.ps.length c1)).but (S:=No) ((But.refl _ _).alloc _) (fun f=>f)).congr (fun j _=>?_)
   by_cases ej:j=k
   ·subst ej;rw[if_pos (by omega),if_pos rfl,HS.out]
   ·by_cases hj:j<k
    ·rw[if_pos (by omega),if_neg ej,if_pos hj]
    ·rw[if_neg (by omega),if_neg ej,if_neg hj]
  ·have hkn:k=n:=by omega
   subst hkn
   have HE:Hid (RPl wr (some ⟨g,0,none⟩) k (plE L)):=hid (by
    refine⟨by rw[plE_len,HN.out],hmx,fun h0=>?_⟩
    obtain⟨b,off,eA,hb,hc⟩:=HZ.out.at_ h0
    have hv':=hv.out h0 b off eA
    refine⟨g,0,rfl,hv'.lt,fun j l hl=>?_⟩
    unfold plE at hl
    rw[List.getElem?_map] at hl
    cases hx:L[j]? with
    | none=>rw[hx] at hl;cases hl
    | some x =>
     rw[hx] at hl
     obtain rfl:x.ps=l:=by simpa using hl
     obtain⟨A',c',h1,_,h3,h4⟩:=hc j x hx
     have hjn:j<k:=by rw[←HN.out];exact(List.getElem?_eq_some_iff.1 hx).1
     refine⟨A',c',?_,h3,h4.no hbw.out⟩
     rw[Nat.zero_add,hv'.cell hjn,if_pos hjn]
     unfold slE;rw[h1];rfl)
   go_wp2
   go_ret
   exact⟨g,rfl,hbw.out,HE.out⟩
end Go.Proofs.YtikcigjbhohboaaGreat.tbl
end
