/- Part 25 of a proof: PaS6. -/
import Derived.Test.YtlecikdjoekknaaGreatM24
set_option maxRecDepth 100000
set_option maxHeartbeats 16000000
set_option linter.unusedVariables false
set_option linter.unusedSimpArgs false
section
namespace Go.Proofs.YtlecikdjoekknaaGreat.pln
open Go.Lib (hid)
open Go.ChangeShapes Go.WideShapes Go.ChangeAt Go.RowKit Go.Deep val Go.Sort Go.Shelf
theorem flatK_at {d:Array Pt} {t:Nat} (h:t<d.size*10):(flatK ptC 10 d)[t]? = (d.toList.flatMap ptC)[t]?:=by
 have e1:t/10<d.size:=by omega
 have hx:d.toList[t/10]? = some d[t/10]:=by simp[e1]
 have e2:=flat_at ptC_len hx (j:=t % 10) (by omega)
 rw[show t/10*10+t % 10=t by omega] at e2
 rw[e2]
 have hs:(flatK ptC 10 d).size=d.size*10:=size_flatK ptC 10 d
 have e3:=get_flatK ptC 10 d t h
 rw[getElem!_pos (flatK ptC 10 d) t (by rw[hs];exact h)] at e3
 rw[Array.getElem?_eq_getElem (by rw[hs];exact h),e3,getElem!_pos d (t/10) e1]
 have hj:t % 10<(ptC d[t/10]).length:=by rw[ptC_len];omega
 rw[getElem!_pos (ptC d[t/10]) (t % 10) hj,List.getElem?_eq_getElem hj]
theorem swk_row {w0 W:World} {g n c:Nat} {l:List Pt} (ho:w0.ownsRow 0 105 10 (.slice (some ⟨g,0,none⟩) n c) n (l.flatMap ptC)) {dk:Array Pt} (hd:dk.size=n) (h:SWK ptC 10 w0 g 0 dk W) :
  W.ownsRow 0 105 10 (.slice (some ⟨g,0,none⟩) n c) n (dk.toList.flatMap ptC)/\But (Just g) w0 W:=by
 obtain⟨h1,h2⟩:=ho
 rcases h2 with⟨h2,_⟩ | ⟨g',cap,cur,hv,hg0,hh,hc,hm,hs,ht⟩
 ·cases h2
 cases hv
 obtain⟨m,os,rfl⟩:=h
 have hlt:g<w0.heap.size:=(Array.getElem?_eq_some_iff.1 hh).1
 have hsz:(w0.heap.modify g (onCells (putCells id 0 (flatK ptC 10 dk)))).size=w0.heap.size:=Array.size_modify
 have hblk:∀ k,k<w0.heap.size->(sortWorldK ptC 10 w0 g 0 m dk os).heap[k]? = (w0.heap.modify g (onCells (putCells id 0 (flatK ptC 10 dk))))[k]?:=λ k hk=>by
  show ((w0.heap.modify g (onCells (putCells id 0 (flatK ptC 10 dk)))) ++ os)[k]? = _
  rw[Array.getElem?_append_left (by rw[hsz];exact hk)]
 refine⟨⟨?_,.inr ⟨g,c,putCells id 0 (flatK ptC 10 dk) cur,rfl,hg0,?_,hc,hm,?_,?_⟩⟩,⟨rfl,rfl,rfl,?_,λ k hk hn=>?_⟩⟩
 ·rw[flat_len ptC_len,Array.length_toList,hd]
 ·rw[hblk g hlt,Array.getElem?_modify,if_pos rfl,hh];rfl
 ·unfold putCells;rw[Array.size_mapIdx];exact hs
 ·apply List.ext_getElem?
  intro t
  rw[List.getElem?_take]
  by_cases hlt2:t<n*10
  ·rw[if_pos hlt2,<-flatK_at (by rw[hd];exact hlt2)]
   have hcur:t<cur.size:=by rw[hs];have:=Nat.mul_le_mul_right 10 hc;omega
   have hf:t<(flatK ptC 10 dk).size:=by rw[size_flatK,hd];exact hlt2
   unfold putCells
   rw[Array.getElem?_toList,Array.getElem?_mapIdx,Array.getElem?_eq_getElem hcur]
   simp only[Option.map_some,Nat.zero_le,Nat.zero_add,true_and,Nat.sub_zero,if_pos hf,id]
   rw[getElem!_pos _ t hf,Array.getElem?_eq_getElem hf]
  ·rw[if_neg hlt2,List.getElem?_eq_none (by rw[flat_len ptC_len,Array.length_toList,hd];omega)]
 ·show w0.heap.size<=((w0.heap.modify g _) ++ os).size
  rw[Array.size_append,hsz];omega
 ·rw[hblk k hk,Array.getElem?_modify,if_neg (λ e=>hn e.symm)]
theorem row_holds {w:World} {g n c:Nat} {l:List Pt} (hl:l.length=n) (ho:w.ownsRow 0 105 10 (.slice (some ⟨g,0,none⟩) n c) n (l.flatMap ptC)):RowK ptC 10 w g 0 l.toArray:=by
 obtain⟨h1,h2⟩:=ho
 rcases h2 with⟨h2,_⟩ | ⟨g',cap,cur,hv,hg0,hh,hc,hm,hs,ht⟩
 ·cases h2
 cases hv
 refine⟨ptC_len,λ x=>pt_one_cell x,λ j hj=>?_,(Array.getElem?_eq_some_iff.1 hh).1⟩
 rw[size_flatK,List.size_toArray,hl] at hj
 have hf:=flatK_at (d:=l.toArray) (t:=j) (by rw[List.size_toArray,hl];exact hj)
 have hb:Blk w g cur 105:=hh
 refine⟨?_,hb.frozen _⟩
 rw[Nat.zero_add]
 refine hb.cell ?_
 have hk:j<(flatK ptC 10 l.toArray).size:=by rw[size_flatK,List.size_toArray,hl];exact hj
 rw[id,getElem!_pos _ j hk]
 rw[Array.getElem?_eq_getElem hk] at hf
 rw[hf]
 show _=(l.flatMap ptC)[j]?
 rw[<-ht,List.getElem?_take,if_pos hj]
 simp
theorem compare_any (a b:Int) (w:World):Calls Tryz.prog 99 #[.int .i64 a,.int .i64 b] w λ e w'=>e=.returned (.int .i64 (if a<b then -1 else if b<a then 1 else 0))/\w'=w:=by
 have CN:Hid (∀ a W,Calls Tryz.prog 124 #[.int .i64 a] W λ e w'=>e=.returned (.bool false)/\w'=W):=hid (λ a W=>by
  have h:(a != a)=false:=by simp
  go_enter Tryz.func124,Tryz.ntmps124
  go_wp2
  go_ret
  exact⟨rfl,rfl⟩)
 by_cases h1:a<b
 ·rw[if_pos h1]
  go_enter Tryz.func99,Tryz.ntmps99
  go_wp2_with (go_at_call 124;refine(CN.out _ _).mono ?_;rintro e w1 ⟨rfl,rfl⟩)
  go_ret
  exact⟨rfl,rfl⟩
 ·rw[if_neg h1]
  by_cases h2:b<a
  ·rw[if_pos h2]
   go_enter Tryz.func99,Tryz.ntmps99
   go_wp2_with (go_at_call 124;refine(CN.out _ _).mono ?_;rintro e w1 ⟨rfl,rfl⟩)
   go_ret
   exact⟨rfl,rfl⟩
  ·rw[if_neg h2]
   go_enter Tryz.func99,Tryz.ntmps99
   go_wp2_with (go_at_call 124;refine(CN.out _ _).mono ?_;rintro e w1 ⟨rfl,rfl⟩)
   go_ret
   exact⟨rfl,rfl⟩
theorem rank1_any (x y:Pt) (w:World):Calls Tryz.prog 98 #[ptV x,ptV y] w λ e w'=>e=.returned (.int .i64 (cmpP x y))/\w'=(w.alloc (.cells (ptA x) 105)).alloc (.cells (ptA y) 105):=by
 obtain⟨⟨co,bu,de,pr,ti⟩,i,k,la,dn,ji⟩:=x
 obtain⟨⟨co',bu',de',pr',ti'⟩,i',k',la',dn',ji'⟩:=y
 have CC:Hid (∀ W,Calls Tryz.prog 99 #[.int .i64 de,.int .i64 de'] W λ e w'=>e=.returned (.int .i64 (cmpP ⟨⟨co,bu,de,pr,ti⟩,i,k,la,dn,ji⟩ ⟨⟨co',bu',de',pr',ti'⟩,i',k',la',dn',ji'⟩))/\w'=W):=hid (λ W=>compare_any de de' W)
 generalize cmpP ⟨⟨co,bu,de,pr,ti⟩,i,k,la,dn,ji⟩ ⟨⟨co',bu',de',pr',ti'⟩,i',k',la',dn',ji'⟩=z at CC ⊢
 dsimp only[ptV,ptA]
 go_enter Tryz.func98,Tryz.ntmps98
 go_wp2_with (go_at_call 99;refine(CC.out _).mono ?_;rintro e w1 ⟨rfl,rfl⟩)
 go_ret
 exact⟨rfl,rfl⟩
theorem cmp_lays (blk off size:Nat) (w:World):CmpLays Tryz.prog 98 #[] ptC 10 cmpP blk off size w:=λ m os dk _ x y=>(rank1_any x y _).mono λ e w' h=>⟨h.1,0,#[.cells (ptA x) 105,.cells (ptA y) 105],by
 rw[h.2,alloc_eq_grow,alloc_eq_grow,grow_grow];rfl⟩
theorem sort_nil (c:Nat) (A:Option Addr) (fv:Value) (w:World):Calls Tryz.prog 97 #[.slice A 0 c,fv] w λ e w'=>e=.returned (.tuple #[])/\w'=w:=by
 have CI:Hid (∀ W,Calls Tryz.prog 149 #[.slice A 0 c,.int .i64 0,.int .i64 0,fv] W λ e w'=>e=.returned (.tuple #[])/\w'=W):=hid (λ W=>by
  go_enter Tryz.func149,Tryz.ntmps149
  go_wp2
  go_loopw [8] (λ i wr=>i=.int .i64 1/\wr=W) (λ _ _=>1)
  case atStart=>exact⟨rfl,rfl⟩
  case round =>
   obtain⟨rfl,rfl⟩:=hrel
   go_wp2
   go_end0
   exact⟨rfl,rfl⟩)
 have CS:Hid (∀ W,Calls Tryz.prog 123 #[.slice A 0 c,.int .i64 0,fv] W λ e w'=>e=.returned (.tuple #[])/\w'=W):=hid (λ W=>by
  go_enter Tryz.func123,Tryz.ntmps123
  go_wp2
  go_loopw [7,8] (λ i j wr=>i=.int .i64 0/\j=.int .i64 20/\wr=W) (λ _ _ _=>1)
  case atStart=>exact⟨rfl,rfl,rfl⟩
  case round =>
   obtain⟨rfl,rfl,hW⟩:=hrel
   have HW:=hid hW
   clear hW
   go_wp2_with (go_at_call 149;refine(CI.out _).mono ?_;rintro e w1 ⟨rfl,h1⟩;rw[h1];clear h1)
   go_loopw [6] (λ i wr2=>i=.int .i64 20/\wr2=wr) (λ _ _=>1)
   case atStart=>exact⟨rfl,rfl⟩
   case round =>
    obtain⟨rfl,hw2⟩:=hrel
    have HW2:=hid (hw2.trans HW.out)
    clear hw2
    go_wp2
    go_end0
    exact⟨rfl,HW2.out⟩)
 go_enter Tryz.func97,Tryz.ntmps97
 go_wp2_with (go_at_call 123;refine(CS.out _).mono ?_;rintro e w1 ⟨rfl,rfl⟩)
 go_end0
 exact⟨rfl,rfl⟩
theorem sort_any {v:Value} {l:List Pt} (w:World) (ho:w.ownsRow 0 105 10 v l.length (l.flatMap ptC)) (hn:l.length<=24) (ht:l.Pairwise λ x y=>x.i<y.i) :
  Calls Tryz.prog 97 #[v,.func (.func 98) #[] #[]] w λ e w'=>e=.returned (.tuple #[])/\But (λ k=>v.ownBlock=some k) w w'/\∃ l':List Pt,w'.ownsRow 0 105 10 v l'.length (l'.flatMap ptC)/\l'.Perm l/\l'.Pairwise ltp:=by
 have ho':=ho
 obtain⟨h1,h2⟩:=ho
 rcases h2 with⟨rfl,h0⟩ | ⟨g,cap,cur,rfl,hg0,hh,hc,hm,hs,hts⟩
 ·have hl:l = []:=List.length_eq_zero_iff.1 h0
  subst hl
  exact(sort_nil 0 none _ w).mono λ e w' h=>⟨h.1,by rw[h.2];exact But.refl _ _, [],by rw[h.2];exact ho',List.Perm.refl _,List.Pairwise.nil⟩
 ·have R:=row_holds rfl ho'
  have hsz:l.toArray.size=l.length:=List.size_toArray
  have hT:Tks 0 l.toArray.size l.toArray:=λ i j _ hij hj=>by
   rw[hsz] at hj
   rw[getElem!_pos l.toArray i (by rw[hsz];omega),getElem!_pos l.toArray j (by rw[hsz];omega)]
   exact(List.pairwise_iff_getElem.1 ht) i j (by omega) hj hij
  have CS:=hid (stable_gen slP g 0 cap l.toArray l.toArray w w 98 #[] (enters_of Tryz.func98 (by kernel_rfl) rfl) (cmp_lays g 0 _ w) R rfl (SWK.start R.hH) (by rw[hsz];exact hn) hT)
  rw[hsz] at CS
  have HF:Hid (∀ w',(∃ d',SWK ptC 10 w g 0 d' w'/\PermIn 0 l.length l.toArray d'/\Srt 0 l.length d')->But (λ k=>(Value.slice (some ⟨g,0,none⟩) l.length cap).ownBlock=some k) w w'/\∃ l':List Pt,w'.ownsRow 0 105 10 (.slice (some ⟨g,0,none⟩) l.length cap) l'.length (l'.flatMap ptC)/\l'.Perm l/\l'.Pairwise ltp):=hid (λ w' ⟨d',s,p,srt⟩=>by
   have hd:d'.size=l.length:=p.1.trans hsz
   obtain⟨o,b⟩:=swk_row ho' hd s
   refine⟨b.mono (λ k _ e=>by cases e;rfl),d'.toList,?_,?_,?_⟩
   ·have e:d'.toList.length=l.length:=by rw[Array.length_toList];exact hd
    rw[e];exact o
   ·have q:=p.2.2
    rw[show l.length=d'.size from hd.symm,Array.extract_size,hd,show l.toArray.extract 0 l.length=l.toArray by rw[<-hsz];exact Array.extract_size] at q
    exact q
   ·rw[List.pairwise_iff_getElem]
    intro i j hi hj hij
    have hj':j<d'.size:=by simpa using hj
    have:=srt i j (Nat.zero_le _) hij (by omega)
    rw[getElem!_pos d' i (by omega),getElem!_pos d' j hj'] at this
    simpa using this)
  clear hT R ho' hh hts hs hc hm
  go_enter Tryz.func97,Tryz.ntmps97
  go_wp2_with (go_at_call 123;refine CS.out.mono ?_;rintro e w1 ⟨rfl,hw1⟩;have HW1:=hid (HF.out _ hw1);clear hw1)
  go_end0
  exact⟨rfl,HW1.out⟩
end Go.Proofs.YtlecikdjoekknaaGreat.pln
end
