/- Part 10 of a proof: PfN PfS. -/
import Derived.Test.YtlecikdjoekknaaGreatM09
set_option maxRecDepth 100000
set_option maxHeartbeats 16000000
set_option linter.unusedVariables false
set_option linter.unusedSimpArgs false
section
namespace Go.Proofs.YtlecikdjoekknaaGreat.pln
open Go.ChangeShapes Go.WideShapes Go.ChangeAt Go.RowKit Go.Deep
theorem numbers_any (A B:Option Addr) (n m c d:Nat) (zs ts:List Int) (w:World) (hz:Rl w A n zs) (ht:Rl w B m ts) :
  Calls Tryz.prog 13 #[.slice A n c,.slice B m d] w λ e w'=>e=.returned (.bool (decide (zs=ts)))/\But No w w':=by
 have hlz:=hz.len
 have hlt:=ht.len
 have hmx:=hz.max
 have hmy:=ht.max
 by_cases hnm:n=m
 ·subst hnm
  have HL:Hid (zs.length=n/\ts.length=n):=⟨hlz,hlt⟩
  have HZ:=Lib.hid hz
  have HT:=Lib.hid ht
  clear hz ht hlz hlt
  go_enter Tryz.func13,Tryz.ntmps13
  go_wp2
  go_loopw [5] (λ i wr=>∃ k:Nat,k<=n/\i=.int .i64 k/\Hid (∀ j,j<k->zs.getD j 0=ts.getD j 0)/\Hid (But No w wr)) (λ i _=>n-(intOf i).toNat)
  case atStart=>exact⟨0,by omega,rfl,λ j hj=>absurd hj (by omega),But.refl _ _⟩
  case round =>
   obtain⟨k,hk,rfl,hall,hbw⟩:=hrel
   by_cases hlt:k<n
   ·obtain⟨b,off,rfl,hb,hc⟩:=(HZ.out.no hbw.out).at_ (by omega)
    obtain⟨b',off',rfl,hb',hc'⟩:=(HT.out.no hbw.out).at_ (by omega)
    have hck:=hc k hlt
    have hck':=hc' k hlt
    clear hc hc'
    have kn':(k:Int)<(n:Int):=by omega
    obtain⟨z,hze⟩:∃ z,z=zs.getD k 0:=⟨_,rfl⟩
    obtain⟨t,hte⟩:∃ t,t=ts.getD k 0:=⟨_,rfl⟩
    rw[<-hze] at hck
    rw[<-hte] at hck'
    by_cases h1:z=t
    ·have hall':Hid (∀ j,j<k+1->zs.getD j 0=ts.getD j 0):=by
      intro j hj
      by_cases e:j=k
      ·subst e;rw[<-hze,<-hte];exact h1
      ·exact hall.out j (by omega)
     have h1':(z != t)=false:=by simpa using h1
     clear hze hte h1
     go_wp2_with fail
     go_quiet (fail)
     go_wp2
     go_roundw
     case rel=>exact⟨k+1,by omega,by go_num,hall',hbw.out.drewN _⟩
     case measure=>simp[intOf];omega
    ·have hE:Hid (decide (zs=ts)=false):=list_ne (k:=k) (by rw[HL.out.1];exact hlt) (by rw[<-hze,<-hte];exact h1)
     have h1':(z != t)=true:=by simpa using h1
     clear hze hte h1
     go_wp2_with fail
     go_quiet (fail)
     go_wp2
     go_ret
     exact⟨retb hE.out.symm,hbw.out.drewN _⟩
   ·have hE:Hid (decide (zs=ts)=true):=list_eq (by rw[HL.out.1,HL.out.2]) (λ j hj=>hall.out j (by have:=HL.out.1;omega))
    go_wp2
    go_ret
    exact⟨retb hE.out.symm,hbw.out⟩
 ·have hE:Hid (decide (zs=ts)=false):=by show _=_;rw[decide_eq_false_iff_not];rintro rfl;omega
  have hne:((n:Int) != (m:Int))=true:=by simp;omega
  clear hz ht hlz hlt
  go_enter Tryz.func13,Tryz.ntmps13
  go_wp2
  all_goals go_ret
  all_goals exact⟨retb hE.out.symm,But.refl _ _⟩
end Go.Proofs.YtlecikdjoekknaaGreat.pln
end
section
namespace Go.Proofs.YtlecikdjoekknaaGreat.pln
open Go.Lib (hid)
open Go.ChangeShapes Go.WideShapes Go.ChangeAt Go.RowKit Go.Deep val
def smS (n:Nat) (k:Int):Sys:=⟨2,1,1,0,0,0,1,0,List.replicate n ⟨10,10,k, []⟩⟩
def tkC (k:Int):List Value:=[.int .i64 10,.int .i64 10,.int .i64 k,.slice none 0 0]
def tkL (k:Int):Nat->List Value
 | 0=>[]
 | n+1=>tkL k n ++ tkC k
theorem tkL_len (k:Int):∀ n,(tkL k n).length=n*4
 | 0=>rfl
 | n+1=>by rw[tkL,List.length_append,tkL_len k n];simp[tkC];omega
theorem tkL_at (k:Int):∀ (n j o:Nat),j<n->o<4->(tkL k n)[j*4+o]? = (tkC k)[o]?
 | n+1,j,o,hj,ho=>by
  rw[tkL]
  by_cases e:j<n
  ·rw[List.getElem?_append_left (by rw[tkL_len];omega)]
   exact tkL_at k n j o e ho
  ·have:j=n:=by omega
   subst this
   rw[List.getElem?_append_right (by rw[tkL_len];omega),tkL_len,show j*4+o-j*4=o by omega]
theorem tk_reads {w:World} {A:Option Addr} {n c:Nat} {k:Int} (h:w.ownsRow 0 47 4 (.slice A n c) n (tkL k n)) (hn:n<=1000) (hk:inR k):n<=c/\RTsk w A n (List.replicate n ⟨10,10,k, []⟩):=by
 obtain⟨h1,h2⟩:=h
 rcases h2 with⟨h2,e⟩ | ⟨g,cap,cur,hv,_,hh,hc,_,hs,ht⟩
 ·cases h2
  exact⟨Nat.le_refl _,List.length_replicate,by omega,λ h=>absurd h (by omega),λ t ht=>by simp at ht⟩
 ·cases hv
  have hb:Blk w g cur 47:=hh
  refine⟨hc,List.length_replicate,by omega,λ hn0=>⟨g,0,rfl,hb.lt,λ j t hj=>?_⟩,λ t ht=>?_⟩
  ·rw[List.getElem?_replicate] at hj
   split at hj
   ·next hjn =>
    cases hj
    have cell:∀ o u,o<4->(tkC k)[o]? = some u->w.cell? ⟨g,0+j*4+o,none⟩=some u:=λ o u ho hu=>by
     refine hb.cell ?_
     have e:=tkL_at k n j o hjn ho
     rw[<-ht,List.getElem?_take,if_pos (by omega),Array.getElem?_toList] at e
     rw[Nat.zero_add,e,hu]
    refine⟨cell 0 _ (by omega) rfl,cell 1 _ (by omega) rfl,cell 2 _ (by omega) rfl,none,0,cell 3 _ (by omega) rfl,Nat.le_refl _,rfl,by simp,λ h=>absurd h (by simp),by simp⟩
   ·cases hj
  ·rw[(List.mem_replicate.1 ht).2]
   exact⟨by show inR 10;unfold inR;omega,by show inR 10;unfold inR;omega,hk⟩
theorem tk_one_reads (w:World) (k:Int) (t:TypeId):Reads (w.alloc (.cells #[.int .i64 10,.int .i64 10,.int .i64 k,.slice none 0 0] t)) (w.heap.size+1) 4 (some ⟨w.heap.size,0,none⟩) 1 (tkC k) :=
 ⟨rfl,λ _=>⟨_,rfl,Nat.lt_succ_self _,World.news_of_block (cs:=#[.int .i64 10,.int .i64 10,.int .i64 k,.slice none 0 0]) (t:=t) (fr:=(0,0)) (Blk.new w _ _)⟩⟩
theorem tk_one_cell (k:Int):∀ u ∈ tkC k,u.oneCell'=true:=by simp[tkC,Value.oneCell']
theorem infoTk : (Tryz.prog.info? 47).map (λ i=>(i.zero,i.size,i.bytes))=some (some (.agg #[.int .i64 0,.int .i64 0,.int .i64 0,.slice none 0 0]),4,48):=by kernel_rfl
theorem some_any (n:Nat) (k:Int) (hk:inR k) (hn:n<=100) (w:World):Calls Tryz.prog 21 #[.int .i64 (n:Int),.int .i64 k] w λ e w'=>∃ A c,e=.returned (sysV (smS n k) A n c)/\But No w w'/\RSys w' A n c (smS n k):=by
 obtain⟨it,hi0,hz0,hz1,hz2⟩:=info_parts infoTk
 have IT:Hid (Tryz.prog.info? 47=some it/\it.zero=some (.agg #[.int .i64 0,.int .i64 0,.int .i64 0,.slice none 0 0])/\it.size=4/\it.bytes=48):=⟨hi0,hz0,hz1,hz2⟩
 have HK:=hid hk
 clear hi0 hz0 hz1 hz2 hk
 go_enter Tryz.func21,Tryz.ntmps21
 go_wp2_with fail
 have hb1:But No w ((w.alloc (.cells #[.int .i64 0,.int .i64 0,.int .i64 0,.int .i64 0,.int .i64 0,.int .i64 0,.int .i64 0,.int .i64 0,.slice none 0 0] 24)).alloc (.cells #[.int .i64 2,.int .i64 1,.int .i64 1,.int .i64 0,.int .i64 0,.int .i64 0,.int .i64 1,.int .i64 0,.slice none 0 0] 24)):=((But.refl No w).alloc _).alloc _
 have hx1:=blk2 w (.cells #[.int .i64 0,.int .i64 0,.int .i64 0,.int .i64 0,.int .i64 0,.int .i64 0,.int .i64 0,.int .i64 0,.slice none 0 0] 24) (#[.int .i64 2,.int .i64 1,.int .i64 1,.int .i64 0,.int .i64 0,.int .i64 0,.int .i64 1,.int .i64 0,.slice none 0 0]) 24
 have hz1:Blk ((w.alloc (.cells #[.int .i64 0,.int .i64 0,.int .i64 0,.int .i64 0,.int .i64 0,.int .i64 0,.int .i64 0,.int .i64 0,.slice none 0 0] 24)).alloc (.cells #[.int .i64 2,.int .i64 1,.int .i64 1,.int .i64 0,.int .i64 0,.int .i64 0,.int .i64 1,.int .i64 0,.slice none 0 0] 24)) w.heap.size #[.int .i64 0,.int .i64 0,.int .i64 0,.int .i64 0,.int .i64 0,.int .i64 0,.int .i64 0,.int .i64 0,.slice none 0 0] 24:=(Blk.new w _ _).alloc _
 have HB1:=hid hb1
 have HX1:=hid hx1
 have HZ1:=hid hz1
 clear hb1 hx1 hz1
 go_loopw [6] (λ x wr=>∃ (q:Nat) (A:Option Addr) (c:Nat),x=.int .i64 (q:Int)/\q<=n/\Hid (But No w wr)/\Hid (Blk wr (w.heap.size+1) #[.int .i64 2,.int .i64 1,.int .i64 1,.int .i64 0,.int .i64 0,.int .i64 0,.int .i64 1,.int .i64 0,.slice A q c] 24)/\Hid (Blk wr w.heap.size #[.int .i64 0,.int .i64 0,.int .i64 0,.int .i64 0,.int .i64 0,.int .i64 0,.int .i64 0,.int .i64 0,.slice none 0 0] 24)/\Hid (wr.ownsRow 0 47 4 (.slice A q c) q (tkL k q))/\Hid (∀ j,(Value.slice A q c).ownBlock=some j->w.heap.size+2<=j)) (λ x _=>n-(intOf x).toNat)
 case atStart=>exact⟨0,none,0,rfl,by omega,HB1.out,HX1.out,HZ1.out,World.ownsRow_nil _ _ _ _,own_none⟩
 case round =>
  clear HB1 HX1 HZ1
  obtain⟨q,A,c,rfl,hq,HB,HX,HZ,HO,HN⟩:=hrel
  have hq0:(0:Int)<=(q:Int):=Int.natCast_nonneg q
  have hlw:w.heap.size+1<wr.heap.size:=HX.out.lt
  by_cases hqn:q<n
  ·have hqn2:(q:Int)<(n:Int):=by omega
   have c8:wr.cell? ⟨w.heap.size+1,8,none⟩=some (.slice A q c):=HX.out.cell rfl
   have HA:Hid (∀ (A6:Option Addr) (c6:Nat) (w5:World),(wr.alloc (.cells #[.int .i64 10,.int .i64 10,.int .i64 k,.slice none 0 0] 47)).grownBy w5 (Value.slice A q c).ownBlock->((Value.slice A6 (q+1) c6).ownBlock=(Value.slice A q c).ownBlock\/(Value.slice A6 (q+1) c6).ownBlock=some (wr.alloc (.cells #[.int .i64 10,.int .i64 10,.int .i64 k,.slice none 0 0] 47)).heap.size)->w5.ownsRow 0 47 4 (.slice A6 (q+1) c6) (q+1) (tkL k q ++ tkC k) ->
     w5.cell? ⟨w.heap.size+1,8,none⟩=some (.slice A q c)/\w5.frozen? ⟨w.heap.size+1,8,none⟩=false/\∀ W,W=w5.setCell ⟨w.heap.size+1,8,none⟩ (.slice A6 (q+1) c6)->But No w W/\Blk W (w.heap.size+1) #[.int .i64 2,.int .i64 1,.int .i64 1,.int .i64 0,.int .i64 0,.int .i64 0,.int .i64 1,.int .i64 0,.slice A6 (q+1) c6] 24/\Blk W w.heap.size #[.int .i64 0,.int .i64 0,.int .i64 0,.int .i64 0,.int .i64 0,.int .i64 0,.int .i64 0,.int .i64 0,.slice none 0 0] 24/\W.ownsRow 0 47 4 (.slice A6 (q+1) c6) (q+1) (tkL k (q+1))/\∀ j,(Value.slice A6 (q+1) c6).ownBlock=some j->w.heap.size+2<=j):=hid (λ A6 c6 w5 hg hat ho=>by
    have hb5:But (λ j=>(Value.slice A q c).ownBlock=some j) wr w5:=((But.refl _ wr).alloc _).grown hg (λ k e=>.inl e)
    have hx5:=HX.out.but hb5 (λ e=>by have:=HN.out _ e;omega)
    have hz5:=HZ.out.but hb5 (λ e=>by have:=HN.out _ e;omega)
    have hnew:∀ j,(Value.slice A6 (q+1) c6).ownBlock=some j->w.heap.size+2<=j:=λ j e=>by
     rcases hat with h | h
     ·exact HN.out j (by rw[<-h];exact e)
     ·rw[h] at e
      have e':(wr.alloc (.cells #[.int .i64 10,.int .i64 10,.int .i64 k,.slice none 0 0] 47)).heap.size=j:=by injection e
      rw[size_alloc1] at e';omega
    refine⟨hx5.cell rfl,hx5.frozen _,λ W hW=>?_⟩
    subst hW
    refine⟨(HB.out.andThen hb5 (λ j e=>.inr (by have:=HN.out j e;omega))).setNew (p:=⟨w.heap.size+1,8,none⟩) (by dsimp only;omega) _,hx5.set 8 _,hz5.other (a:=⟨w.heap.size+1,8,none⟩) (by dsimp only;omega) _,ownsRow_setCell_other ho (λ e=>by have h9:w.heap.size+2<=w.heap.size+1:=hnew _ e;omega) _,hnew⟩)
   have HRA:=hid (owns_but HO.out ((But.refl No wr).alloc (.cells #[.int .i64 10,.int .i64 10,.int .i64 k,.slice none 0 0] 47)) (λ _ _ f=>f))
   go_wp2_with (at_builtin;refine wpList_append_sh _ rfl _ _ 22 rfl 47 it _ 4 48 Tryz.underlying22 IT.out.1 IT.out.2.1 IT.out.2.2.1 IT.out.2.2.2 rfl (by omega) (.slice A q c) q _ rfl HRA.out (wr.heap.size+1) (some ⟨wr.heap.size,0,none⟩) 1 1 (tkC k) rfl (tk_one_reads wr k _) (tk_one_cell k) (by unfold maxLen;omega) (by omega) ?_;intro A6 c6 w5 hown hgrow hat;obtain⟨y8,z8,hH⟩:=HA.out A6 c6 w5 hgrow hat hown;have HH:=hid hH;clear hown hgrow hat hH c8)
   go_roundw
   case rel=>exact⟨q+1,A6,c6,by first | rfl | go_num,by omega,(HH.out _ rfl).1,(HH.out _ rfl).2.1,(HH.out _ rfl).2.2.1,(HH.out _ rfl).2.2.2.1,(HH.out _ rfl).2.2.2.2⟩
   case measure=>simp[intOf];omega
  ·have hqn2:¬(q:Int)<(n:Int):=by omega
   have hqe:q=n:=by omega
   subst hqe
   have hR:=tk_reads HO.out (by omega) HK.out
   have b0:wr.cell? ⟨w.heap.size+1,0,none⟩=some (.int .i64 2):=HX.out.cell rfl
   have b1:wr.cell? ⟨w.heap.size+1,1,none⟩=some (.int .i64 1):=HX.out.cell rfl
   have b2:wr.cell? ⟨w.heap.size+1,2,none⟩=some (.int .i64 1):=HX.out.cell rfl
   have b3:wr.cell? ⟨w.heap.size+1,3,none⟩=some (.int .i64 0):=HX.out.cell rfl
   have b4:wr.cell? ⟨w.heap.size+1,4,none⟩=some (.int .i64 0):=HX.out.cell rfl
   have b5:wr.cell? ⟨w.heap.size+1,5,none⟩=some (.int .i64 0):=HX.out.cell rfl
   have b6:wr.cell? ⟨w.heap.size+1,6,none⟩=some (.int .i64 1):=HX.out.cell rfl
   have b7:wr.cell? ⟨w.heap.size+1,7,none⟩=some (.int .i64 0):=HX.out.cell rfl
   have b8:wr.cell? ⟨w.heap.size+1,8,none⟩=some (.slice A q c):=HX.out.cell rfl
   have y0:wr.cell? ⟨w.heap.size,0,none⟩=some (.int .i64 0):=HZ.out.cell rfl
   have f0:=HZ.out.frozen 0
   have y1:wr.cell? ⟨w.heap.size,1,none⟩=some (.int .i64 0):=HZ.out.cell rfl
   have f1:=HZ.out.frozen 1
   have y2:wr.cell? ⟨w.heap.size,2,none⟩=some (.int .i64 0):=HZ.out.cell rfl
   have f2:=HZ.out.frozen 2
   have y3:wr.cell? ⟨w.heap.size,3,none⟩=some (.int .i64 0):=HZ.out.cell rfl
   have f3:=HZ.out.frozen 3
   have y4:wr.cell? ⟨w.heap.size,4,none⟩=some (.int .i64 0):=HZ.out.cell rfl
   have f4:=HZ.out.frozen 4
   have y5:wr.cell? ⟨w.heap.size,5,none⟩=some (.int .i64 0):=HZ.out.cell rfl
   have f5:=HZ.out.frozen 5
   have y6:wr.cell? ⟨w.heap.size,6,none⟩=some (.int .i64 0):=HZ.out.cell rfl
   have f6:=HZ.out.frozen 6
   have y7:wr.cell? ⟨w.heap.size,7,none⟩=some (.int .i64 0):=HZ.out.cell rfl
   have f7:=HZ.out.frozen 7
   have y8:wr.cell? ⟨w.heap.size,8,none⟩=some (.slice none 0 0):=HZ.out.cell rfl
   have f8:=HZ.out.frozen 8
   have HF:Hid (But (Just w.heap.size) wr ((((((((((wr).setCell ⟨w.heap.size,0,none⟩ (.int .i64 2)).setCell ⟨w.heap.size,1,none⟩ (.int .i64 1)).setCell ⟨w.heap.size,2,none⟩ (.int .i64 1)).setCell ⟨w.heap.size,3,none⟩ (.int .i64 0)).setCell ⟨w.heap.size,4,none⟩ (.int .i64 0)).setCell ⟨w.heap.size,5,none⟩ (.int .i64 0)).setCell ⟨w.heap.size,6,none⟩ (.int .i64 1)).setCell ⟨w.heap.size,7,none⟩ (.int .i64 0)).setCell ⟨w.heap.size,8,none⟩ (.slice A q c))):=hid ((((((((((But.refl (Just w.heap.size) wr).setCell (p:=⟨w.heap.size,0,none⟩) (just _) _).setCell (p:=⟨w.heap.size,1,none⟩) (just _) _).setCell (p:=⟨w.heap.size,2,none⟩) (just _) _).setCell (p:=⟨w.heap.size,3,none⟩) (just _) _).setCell (p:=⟨w.heap.size,4,none⟩) (just _) _).setCell (p:=⟨w.heap.size,5,none⟩) (just _) _).setCell (p:=⟨w.heap.size,6,none⟩) (just _) _).setCell (p:=⟨w.heap.size,7,none⟩) (just _) _).setCell (p:=⟨w.heap.size,8,none⟩) (just _) _)
   have HR:=hid hR
   clear hR
   have HZ9:Hid (Blk ((((((((((wr).setCell ⟨w.heap.size,0,none⟩ (.int .i64 2)).setCell ⟨w.heap.size,1,none⟩ (.int .i64 1)).setCell ⟨w.heap.size,2,none⟩ (.int .i64 1)).setCell ⟨w.heap.size,3,none⟩ (.int .i64 0)).setCell ⟨w.heap.size,4,none⟩ (.int .i64 0)).setCell ⟨w.heap.size,5,none⟩ (.int .i64 0)).setCell ⟨w.heap.size,6,none⟩ (.int .i64 1)).setCell ⟨w.heap.size,7,none⟩ (.int .i64 0)).setCell ⟨w.heap.size,8,none⟩ (.slice A q c)) w.heap.size #[.int .i64 2,.int .i64 1,.int .i64 1,.int .i64 0,.int .i64 0,.int .i64 0,.int .i64 1,.int .i64 0,.slice A q c] 24):=hid (Blk.set (Blk.set (Blk.set (Blk.set (Blk.set (Blk.set (Blk.set (Blk.set (Blk.set HZ.out 0 _) 1 _) 2 _) 3 _) 4 _) 5 _) 6 _) 7 _) 8 _)
   go_wp2
   generalize ((((((((((wr).setCell ⟨w.heap.size,0,none⟩ (.int .i64 2)).setCell ⟨w.heap.size,1,none⟩ (.int .i64 1)).setCell ⟨w.heap.size,2,none⟩ (.int .i64 1)).setCell ⟨w.heap.size,3,none⟩ (.int .i64 0)).setCell ⟨w.heap.size,4,none⟩ (.int .i64 0)).setCell ⟨w.heap.size,5,none⟩ (.int .i64 0)).setCell ⟨w.heap.size,6,none⟩ (.int .i64 1)).setCell ⟨w.heap.size,7,none⟩ (.int .i64 0)).setCell ⟨w.heap.size,8,none⟩ (.slice A q c))=W9 at HF HZ9 ⊢
   clear y0 y1 y2 y3 y4 y5 y6 y7 y8 f0 f1 f2 f3 f4 f5 f6 f7 f8 b0 b1 b2 b3 b4 b5 b6 b7 b8 HR
   obtain⟨hcc,hrt⟩:=tk_reads (owns_but HO.out HF.out (λ j e f=>by have h1:=HN.out j e;have h2:j=w.heap.size:=f;omega)) (by omega) HK.out
   have y0:W9.cell? ⟨w.heap.size,0,none⟩=some (.int .i64 2):=HZ9.out.cell rfl
   have y1:W9.cell? ⟨w.heap.size,1,none⟩=some (.int .i64 1):=HZ9.out.cell rfl
   have y2:W9.cell? ⟨w.heap.size,2,none⟩=some (.int .i64 1):=HZ9.out.cell rfl
   have y3:W9.cell? ⟨w.heap.size,3,none⟩=some (.int .i64 0):=HZ9.out.cell rfl
   have y4:W9.cell? ⟨w.heap.size,4,none⟩=some (.int .i64 0):=HZ9.out.cell rfl
   have y5:W9.cell? ⟨w.heap.size,5,none⟩=some (.int .i64 0):=HZ9.out.cell rfl
   have y6:W9.cell? ⟨w.heap.size,6,none⟩=some (.int .i64 1):=HZ9.out.cell rfl
   have y7:W9.cell? ⟨w.heap.size,7,none⟩=some (.int .i64 0):=HZ9.out.cell rfl
   have y8:W9.cell? ⟨w.heap.size,8,none⟩=some (.slice A q c):=HZ9.out.cell rfl
   exact bodyPost_ret (v:=.agg #[.int .i64 2,.int .i64 1,.int .i64 1,.int .i64 0,.int .i64 0,.int .i64 0,.int .i64 1,.int .i64 0,.slice A q c]) (by simp[results,Tryz.results21,go_sem,y0,y1,y2,y3,y4,y5,y6,y7,y8]) rfl ⟨A,c,rfl,HB.out.andThen HF.out (λ j e=>.inr (by rw[show j=w.heap.size from e];exact Nat.le_refl _)),hcc,hrt,by unfold smS inR;dsimp only;omega⟩
end Go.Proofs.YtlecikdjoekknaaGreat.pln
end
