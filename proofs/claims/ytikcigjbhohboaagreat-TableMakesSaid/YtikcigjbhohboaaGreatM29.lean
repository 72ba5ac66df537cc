/- Part 29 of a proof: PaS5 PaS6. -/
import Derived.Test.YtikcigjbhohboaaGreatM28
section
namespace Go.Proofs.YtikcigjbhohboaaGreat.pln
open Go.Lib (hid)
open Go.ChangeShapes Go.WideShapes Go.ChangeAt Go.RowKit Go.Deep val Go.Sort Go.Shelf
theorem tks_keep {a b x y:Nat} {d d':Array Pt} (h:Tks x y d) (hp:PermIn a b d d') (hx:b≤x):Tks x y d':=fun i j h1 h2 h3=>by rw[hp.2.1 i (.inr (by omega)),hp.2.1 j (.inr (by omega))];exact h i j h1 h2 h3
theorem bfo_perm {x n:Nat} {d d1 d2:Array Pt} (h:Tks 0 n d) (hn:x≤n) (hd:n≤d.size) (p1:PermIn 0 x d d1) (p2:PermIn x n d1 d2):Bfo 0 x n d2:=by
 have:=perm_pairs (a:=0) (m:=x) (b:=n) (d:=d) (R:=fun u v=>u.i<v.i) (Nat.zero_le _) hn hd p1 p2 (fun i j i0 i1 j0 j1=>h i j i0 (by omega) j1)
 exact this
set_option maxRecDepth 100000 in
set_option maxHeartbeats 8000000 in
theorem stable_gen {P:Program} {K:Nat} {enc:Pt→List Value} (L:SlP P K) (blk off cap:Nat) (d0 d:Array Pt) (w0 w:World) (g:Nat) (cb:Array Value) (eg:∀ args w,(callFunc g args).run P w=.ok (.enter g args) w) (hcmp:CmpLays P g cb enc K cmpP blk off d0.size w0)
  (R:RowK enc K w0 blk off d0) (hs:d0.size=d.size) (S:SWK enc K w0 blk off d w) (hsz:d.size≤24) (ht:Tks 0 d.size d) :
  Calls P 143 #[.slice (some ⟨blk,off,none⟩) d.size cap,.int .i64 (d.size:Int),.func (.func g) #[] cb] w fun e w'=>e=.returned (.tuple #[])∧∃ d',SWK enc K w0 blk off d' w'∧PermIn 0 d.size d d'∧Srt 0 d.size d':=by
 have mixed:=L.mixed;have aE:=L.aE;have zE:=L.zE;have uS:=run_underlying L.tS;have t0:=L.t0;have a0:=L.a0;have z0:=L.z0;have v0:=L.v0;have t3:=L.t3;have a3:=L.a3;have z3:=L.z3;have v3:=L.v3;have t4:=L.t4;have a4:=L.a4;have z4:=L.z4;have v4:=L.v4;have tS:=L.tS;have aS:=L.aS;have zS:=L.zS;have vS:=L.vS;have tC:=L.tC;have aC:=L.aC;have zC:=L.zC;have vC:=L.vC;have tU:=L.tU;have aU:=L.aU;have zU:=L.zU;have vU:=L.vU
 have S0:Hid (SWK enc K w0 blk off d w):=S
 have egI:∀ args w,(callFunc 162 args).run P w=.ok (.enter 162 args) w:=enters_of L.f116 (by kernel_rfl) rfl
 have egM:∀ args w,(callFunc 163 args).run P w=.ok (.enter 163 args) w:=enters_of L.f117 (by kernel_rfl) rfl
 obtain⟨n,hn⟩:∃ n,d.size=n:=⟨_,rfl⟩
 have HN:=hid hn
 have CI:Hid (∀ (x y:Nat) (dk:Array Pt) (W:World),dk.size=d.size→SWK enc K w0 blk off dk W→x≤y→y≤n→Tks x y dk→Calls P 162 #[.slice (some ⟨blk,off,none⟩) n cap,.int .i64 (x:Int),.int .i64 (y:Int),.func (.func g) #[] cb] W fun e w'=>e=.returned (.tuple #[])∧∃ d',SWK enc K w0 blk off d' w'∧PermIn x y dk d'∧Srt x y d'):=hid (fun x y dk W i1 i2 i3 i4 i5=>by
  rw[←hn,←i1]
  exact insert_gen L blk off cap x y d0 dk w0 W g cb eg hcmp R (by omega) i2 i3 (by omega) (by omega) i5)
 have CM:Hid (∀ (x y z:Nat) (dk:Array Pt) (W:World),dk.size=d.size→SWK enc K w0 blk off dk W→x<y→y<z→z≤n→Srt x y dk→Srt y z dk→Bfo x y z dk→Calls P 163 #[.slice (some ⟨blk,off,none⟩) n cap,.int .i64 (x:Int),.int .i64 (y:Int),.int .i64 (z:Int),.func (.func g) #[] cb] W fun e w'=>e=.returned (.tuple #[])∧∃ d',SWK enc K w0 blk off d' w'∧PermIn x z dk d'∧Srt x z d'):=hid (fun x y z dk W i1 i2 i3 i4 i5 i6 i7 i8=>by
  rw[←hn,←i1]
  exact sym_gen (z-x) L blk off cap x y z d0 dk w0 W g cb eg hcmp R (by omega) i2 (Nat.le_refl _) i3 i4 (by omega) (by omega) i6 i7 i8)
 have HT:Hid (Tks 0 n d):=hid (by rw[←hn];exact ht)
 have HDS:Hid (d.size=n):=HN
 rw[hn]
 rw[hn] at hsz
 clear S hcmp ht hn hs R
 go_enter L.f91,Tryz.ntmps143
 go_wp2
 go_loopg [7,8] 60 (fun gg s7 s8 wr=>∃ (x y:Nat) (dk:Array Pt),s7=.int .i64 (x:Int)∧s8=.int .i64 (y:Int)∧60-y≤gg∧dk.size=d.size∧(x=0∧y=20∨x=20∧y=40∧20≤n)∧Hid (SWK enc K w0 blk off dk wr)∧Hid (PermIn 0 x d dk)∧Hid (Srt 0 x dk))
 case atStart=>exact⟨0,20,d,rfl,rfl,by omega,rfl,.inl ⟨rfl,rfl⟩,S0.out,permIn_refl _ _ _,fun i j h1 h2 h3=>by omega⟩
 case round =>
  clear S0
  obtain⟨x,y,dk,rfl,rfl,hgg,hds,hxy,S1,HP,HS⟩:=hrel
  have HTK:Hid (∀ y,y≤n→Tks x y dk):=hid (fun y hy=>tks_keep (fun i j h1 h2 h3=>HT.out i j (Nat.zero_le _) h2 (by omega)) HP.out (Nat.le_refl _))
  by_cases hlt:y≤n
  ·have hltz:(y:Int)≤(n:Int):=by omega
   have hx:x=0∧y=20:=by omega
   have HX0:Hid (x=0):=hid hx.1
   have hy20:(y:Int)+20=((y+20:Nat):Int):=by omega
   obtain⟨z,hz⟩:∃ z,y+20=z:=⟨_,rfl⟩
   rw[hz] at hy20
   have hfin:z=40∧y=20∧20≤n:=by omega
   have HF9:=hid hfin
   clear hfin hz hxy hx
   have hx0:x≤y:=by have:=HX0.out;have:=HF9.out;omega
   go_wp2_with (go_at_call 162;refine(CI.out x y dk wr hds S1.out hx0 hlt (HTK.out y hlt)).mono ?_;rintro e w2 ⟨rfl,d1,s2,p2,r2⟩;have S2:=hid s2;have P2:=hid p2;have R2:=hid r2;have hd1:d1.size=d.size:=p2.1.trans hds;clear s2 p2 r2)
   go_roundg (60-z)
   case measure=>have:=HF9.out;omega
   case rel =>
    have hf:=HF9.out
    have hx:=HX0.out
    refine⟨y,z,d1,rfl,by first | rfl | (congr 1),Nat.le_refl _,hd1,.inr ⟨hf.2.1,hf.1,hf.2.2⟩,S2.out,?_,?_⟩
    ·have p:=HP.out
     have q:=P2.out
     rw[hx] at p q
     exact permIn_trans _ _ _ _ _ (permIn_mono _ _ 0 0 0 y (Nat.le_refl _) (Nat.zero_le _) (by have:=HDS.out;omega) p) q
    ·have r:=R2.out
     rw[hx] at r
     exact r
  ·have hltz:¬(y:Int)≤(n:Int):=by omega
   have hxn:x≤n:=by omega
   have HXY:=hid hxy
   have HB:Hid (∀ d1,PermIn x n dk d1→Srt x n d1→PermIn 0 n d d1∧(n≤20→Srt 0 n d1)∧(20<n→Srt 0 20 d1∧Srt 20 n d1∧Bfo 0 20 n d1)):=hid (fun d1 p s=>by
    have hn9:=HDS.out
    have hp0:=HP.out
    have hs0:Srt 0 x d1:=fun i j h1 h2 h3=>by rw[p.2.1 i (.inl (by omega)),p.2.1 j (.inl h3)];exact HS.out i j h1 h2 h3
    refine⟨permIn_trans _ _ _ _ _ (permIn_mono _ _ 0 x 0 n (Nat.le_refl _) hxn (by omega) hp0) (permIn_mono _ _ x n 0 n (Nat.zero_le _) (Nat.le_refl _) (by omega) p),fun h20=>?_,fun h20=>?_⟩
    ·rcases HXY.out with⟨e,_⟩ | ⟨e,_,e2⟩
     ·rw[e] at s;exact s
     ·have:n=x:=by omega
      rw[this];exact hs0
    ·rcases HXY.out with⟨e,e2⟩ | ⟨e,_,e2⟩
     ·omega
     ·rw[e] at s hs0 p hp0
      exact⟨hs0,s,bfo_perm HT.out (by omega) (by omega) hp0 p⟩)
   clear hxy
   go_wp2_with (go_at_call 162;refine(CI.out x n dk wr hds S1.out hxn (Nat.le_refl _) (HTK.out n (Nat.le_refl _))).mono ?_;rintro e w2 ⟨rfl,d1,s2,p2,r2⟩;have S2:=hid s2;have B2:=hid (HB.out d1 p2 r2);have hd1:d1.size=d.size:=p2.1.trans hds;clear s2 p2 r2)
   go_loopg [6,7,8,9] 60 (fun gg s6 s7 s8 s9 wr=>∃ (z:Nat) (dk:Array Pt) (v7 v8 v9:Value),s6=.int .i64 (z:Int)∧s7=v7∧s8=v8∧s9=v9∧60-z≤gg∧dk.size=d.size∧(z=20∨z=40)∧Hid (SWK enc K w0 blk off dk wr)∧Hid (PermIn 0 n d dk)∧Hid (n≤z→Srt 0 n dk)∧Hid (z<n→Srt 0 20 dk∧Srt 20 n dk∧Bfo 0 20 n dk))
   case atStart=>exact⟨20,d1,_,_,_,rfl,rfl,rfl,rfl,by omega,hd1,.inl rfl,S2.out,B2.out.1,B2.out.2.1,B2.out.2.2⟩
   case round =>
    clear S2 B2 HB S1 HP HS HTK HXY
    obtain⟨z,dj,v7,v8,v9,rfl,h7,h8,h9,hgg,hds,hz,S1,HP,HS,HM⟩:=hrel
    by_cases hlt:z<n
    ·have hltz2:(z:Int)<(n:Int):=by omega
     have hz20:z=20:=by omega
     have HZ:=hid hz20
     have t1:2*(z:Int)=((2*z:Nat):Int):=by omega
     have t1':(z:Int)*2=((2*z:Nat):Int):=by omega
     obtain⟨z2,hz2⟩:∃ z2,2*z=z2:=⟨_,rfl⟩
     rw[hz2] at t1 t1'
     have hz3:¬(z2:Int)≤(n:Int):=by omega
     have t2:(0:Int)+(z:Int)=(z:Int):=by omega
     have HZ2:Hid (z2=40):=hid (by omega)
     clear hz20 hz2 hz
     go_wp2
     go_loopg [7,8] 5 (fun gg s7 s8 wr2=>s7=.int .i64 0∧s8=.int .i64 (z2:Int)∧wr2=wr)
     case atStart=>exact⟨rfl,rfl,rfl⟩
     case round =>
      obtain⟨rfl,rfl,rfl⟩:=hrel
      have CA:=CM.out 0 z n dj wr hds S1.out (by have:=HZ.out;omega) hlt (Nat.le_refl _) (by have:=(HM.out hlt).1;rw[HZ.out];exact this) (by have:=(HM.out hlt).2.1;rw[HZ.out];exact this) (by have:=(HM.out hlt).2.2;rw[HZ.out];exact this)
      rw[show ((0:Nat):Int)=0 from rfl] at CA
      go_wp2_with (go_at_call 163;refine CA.mono ?_;rintro e w3 ⟨rfl,d2,s3,p3,r3⟩;have S3:=hid s3;have P3:=hid p3;have R3:=hid r3;have hd2:d2.size=d.size:=p3.1.trans hds;clear s3 p3 r3)
      go_roundg (60-z2)
      case measure=>have:=HZ.out;have:=HZ2.out;omega
      case rel=>exact⟨z2,d2,_,_,_,rfl,rfl,rfl,rfl,Nat.le_refl _,hd2,.inr HZ2.out,S3.out,permIn_trans _ _ _ _ _ HP.out P3.out,fun _=>R3.out,fun h=>by have:=HZ2.out;omega⟩
    ·have hltz2:¬(z:Int)<(n:Int):=by omega
     have HF:=hid (HS.out (by omega))
     go_wp2
     go_end0
     exact⟨rfl,dj,S1.out,HP.out,HF.out⟩
end Go.Proofs.YtikcigjbhohboaaGreat.pln
end
section
namespace Go.Proofs.YtikcigjbhohboaaGreat.pln
open Go.Lib (hid)
open Go.ChangeShapes Go.WideShapes Go.ChangeAt Go.RowKit Go.Deep val Go.Sort Go.Shelf
theorem flatK_at {d:Array Pt} {t:Nat} (h:t<d.size*10):(flatK ptC 10 d)[t]? = (d.toList.flatMap ptC)[t]?:=by
 have e1:t/10<d.size:=by omega
 have hx:d.toList[t/10]? = some d[t/10]:=by simp[e1]
 have e2:=flat_at ptC_len hx (j:=t % 10) (by omega)
 rw[show t/10*10+t % 10=t by omega] at e2
 rw[e2]
 have hs:(flatK ptC 10 d).size=d.size*10:=size_flatK ptC 10 d
 have e3:=get_flatK ptC 10 d t h
 rw[getElem!_pos (flatK ptC 10 d) t (by rw[hs];exact h)] at e3
 rw[Array.getElem?_eq_getElem (by rw[hs];exact h),e3,getElem!_pos d (t/10) e1]
 have hj:t % 10<(ptC d[t/10]).length:=by rw[ptC_len];omega
 rw[getElem!_pos (ptC d[t/10]) (t % 10) hj,List.getElem?_eq_getElem hj]
theorem swk_row {w0 W:World} {g n c:Nat} {l:List Pt} (ho:w0.ownsRow 0 130 10 (.slice (some ⟨g,0,none⟩) n c) n (l.flatMap ptC)) {dk:Array Pt} (hd:dk.size=n) (h:SWK ptC 10 w0 g 0 dk W) :
  W.ownsRow 0 130 10 (.slice (some ⟨g,0,none⟩) n c) n (dk.toList.flatMap ptC)∧But (Just g) w0 W:=by
 obtain⟨h1,h2⟩:=ho
 rcases h2 with⟨h2,_⟩ | ⟨g',cap,cur,hv,hg0,hh,hc,hm,hs,ht⟩
 ·cases h2
 cases hv
 obtain⟨m,os,rfl⟩:=h
 have hlt:g<w0.heap.size:=(Array.getElem?_eq_some_iff.1 hh).1
 have hsz:(w0.heap.modify g (onCells (putCells id 0 (flatK ptC 10 dk)))).size=w0.heap.size:=Array.size_modify
 have hblk:∀ k,k<w0.heap.size→(sortWorldK ptC 10 w0 g 0 m dk os).heap[k]? = (w0.heap.modify g (onCells (putCells id 0 (flatK ptC 10 dk))))[k]?:=fun k hk=>by
  show ((w0.heap.modify g (onCells (putCells id 0 (flatK ptC 10 dk)))) ++ os)[k]? = _
  rw[Array.getElem?_append_left (by rw[hsz];exact hk)]
 refine⟨⟨?_,.inr ⟨g,c,putCells id 0 (flatK ptC 10 dk) cur,rfl,hg0,?_,hc,hm,?_,?_⟩⟩,⟨rfl,rfl,rfl,?_,fun k hk hn=>?_⟩⟩
 ·rw[flat_len ptC_len,Array.length_toList,hd]
 ·rw[hblk g hlt,Array.getElem?_modify,if_pos rfl,hh];rfl
 ·unfold putCells;rw[Array.size_mapIdx];exact hs
 ·apply List.ext_getElem?
  intro t
  rw[List.getElem?_take]
  by_cases hlt2:t<n*10
  ·rw[if_pos hlt2,←flatK_at (by rw[hd];exact hlt2)]
   have hcur:t<cur.size:=by rw[hs];have:=Nat.mul_le_mul_right 10 hc;omega
   have hf:t<(flatK ptC 10 dk).size:=by rw[size_flatK,hd];exact hlt2
   unfold putCells
   rw[Array.getElem?_toList,Array.getElem?_mapIdx,Array.getElem?_eq_getElem hcur]
   simp only[Option.map_some,Nat.zero_le,Nat.zero_add,true_and,Nat.sub_zero,if_pos hf,id]
   rw[getElem!_pos _ t hf,Array.getElem?_eq_getElem hf]
  ·rw[if_neg hlt2,List.getElem?_eq_none (by rw[flat_len ptC_len,Array.length_toList,hd];omega)]
 ·show w0.heap.size≤((w0.heap.modify g _) ++ os).size
  rw[Array.size_append,hsz];omega
 ·rw[hblk k hk,Array.getElem?_modify,if_neg (fun e=>hn e.symm)]
theorem row_holds {w:World} {g n c:Nat} {l:List Pt} (hl:l.length=n) (ho:w.ownsRow 0 130 10 (.slice (some ⟨g,0,none⟩) n c) n (l.flatMap ptC)):RowK ptC 10 w g 0 l.toArray:=by
 obtain⟨h1,h2⟩:=ho
 rcases h2 with⟨h2,_⟩ | ⟨g',cap,cur,hv,hg0,hh,hc,hm,hs,ht⟩
 ·cases h2
 cases hv
 refine⟨ptC_len,fun x=>pt_one_cell x,fun j hj=>?_,(Array.getElem?_eq_some_iff.1 hh).1⟩
 rw[size_flatK,List.size_toArray,hl] at hj
 have hf:=flatK_at (d:=l.toArray) (t:=j) (by rw[List.size_toArray,hl];exact hj)
 have hb:Blk w g cur 130:=hh
 refine⟨?_,hb.frozen _⟩
 rw[Nat.zero_add]
 refine hb.cell ?_
 have hk:j<(flatK ptC 10 l.toArray).size:=by rw[size_flatK,List.size_toArray,hl];exact hj
 rw[id,getElem!_pos _ j hk]
 rw[Array.getElem?_eq_getElem hk] at hf
 rw[hf]
 show _=(l.flatMap ptC)[j]?
 rw[←ht,List.getElem?_take,if_pos hj]
 simp
set_option maxRecDepth 100000 in
theorem compare_any (a b:Int) (w:World):Calls Tryz.prog 117 #[.int .i64 a,.int .i64 b] w fun e w'=>e=.returned (.int .i64 (if a<b then -1 else if b<a then 1 else 0))∧w'=w:=by
 have CN:Hid (∀ a W,Calls Tryz.prog 144 #[.int .i64 a] W fun e w'=>e=.returned (.bool false)∧w'=W):=hid (fun a W=>by
  have h:(a != a)=false:=by simp
  go_enter Tryz.func144,Tryz.ntmps144
  go_wp2
  go_ret
  exact⟨rfl,rfl⟩)
 by_cases h1:a<b
 ·rw[if_pos h1]
  go_enter Tryz.func117,Tryz.ntmps117
  go_wp2_with (go_at_call 144;refine(CN.out _ _).mono ?_;rintro e w1 ⟨rfl,rfl⟩)
  go_ret
  exact⟨rfl,rfl⟩
 ·rw[if_neg h1]
  by_cases h2:b<a
  ·rw[if_pos h2]
   go_enter Tryz.func117,Tryz.ntmps117
   go_wp2_with (go_at_call 144;refine(CN.out _ _).mono ?_;rintro e w1 ⟨rfl,rfl⟩)
   go_ret
   exact⟨rfl,rfl⟩
  ·rw[if_neg h2]
   go_enter Tryz.func117,Tryz.ntmps117
   go_wp2_with (go_at_call 144;refine(CN.out _ _).mono ?_;rintro e w1 ⟨rfl,rfl⟩)
   go_ret
   exact⟨rfl,rfl⟩
set_option maxRecDepth 100000 in
theorem rank1_any (x y:Pt) (w:World):Calls Tryz.prog 116 #[ptV x,ptV y] w fun e w'=>e=.returned (.int .i64 (cmpP x y))∧w'=(w.alloc (.cells (ptA x) 130)).alloc (.cells (ptA y) 130):=by
 obtain⟨⟨co,bu,de,pr,ti⟩,i,k,la,dn,ji⟩:=x
 obtain⟨⟨co',bu',de',pr',ti'⟩,i',k',la',dn',ji'⟩:=y
 have CC:Hid (∀ W,Calls Tryz.prog 117 #[.int .i64 de,.int .i64 de'] W fun e w'=>e=.returned (.int .i64 (cmpP ⟨⟨co,bu,de,pr,ti⟩,i,k,la,dn,ji⟩ ⟨⟨co',bu',de',pr',ti'⟩,i',k',la',dn',ji'⟩))∧w'=W):=hid (fun W=>compare_any de de' W)
 generalize cmpP ⟨⟨co,bu,de,pr,ti⟩,i,k,la,dn,ji⟩ ⟨⟨co',bu',de',pr',ti'⟩,i',k',la',dn',ji'⟩=z at CC ⊢
 dsimp only[ptV,ptA]
 go_enter Tryz.func116,Tryz.ntmps116
 go_wp2_with (go_at_call 117;refine(CC.out _).mono ?_;rintro e w1 ⟨rfl,rfl⟩)
 go_ret
 exact⟨rfl,rfl⟩
theorem cmp_lays (blk off size:Nat) (w:World):CmpLays Tryz.prog 116 #[] ptC 10 cmpP blk off size w:=fun m os dk _ x y=>(rank1_any x y _).mono fun e w' h=>⟨h.1,0,#[.cells (ptA x) 130,.cells (ptA y) 130],by
 rw[h.2,alloc_eq_grow,alloc_eq_grow,grow_grow];rfl⟩
set_option maxRecDepth 100000 in
set_option maxHeartbeats 2000000 in
theorem sort_nil (c:Nat) (A:Option Addr) (fv:Value) (w:World):Calls Tryz.prog 115 #[.slice A 0 c,fv] w fun e w'=>e=.returned (.tuple #[])∧w'=w:=by
 have CI:Hid (∀ W,Calls Tryz.prog 162 #[.slice A 0 c,.int .i64 0,.int .i64 0,fv] W fun e w'=>e=.returned (.tuple #[])∧w'=W):=hid (fun W=>by
  go_enter Tryz.func162,Tryz.ntmps162
  go_wp2
  go_loopw [8] (fun i wr=>i=.int .i64 1∧wr=W) (fun _ _=>1)
  case atStart=>exact⟨rfl,rfl⟩
  case round =>
   obtain⟨rfl,rfl⟩:=hrel
   go_wp2
   go_end0
   exact⟨rfl,rfl⟩)
 have CS:Hid (∀ W,Calls Tryz.prog 143 #[.slice A 0 c,.int .i64 0,fv] W fun e w'=>e=.returned (.tuple #[])∧w'=W):=hid (fun W=>by
  go_enter Tryz.func143,Tryz.ntmps143
  go_wp2
  go_loopw [7,8] (fun i j wr=>i=.int .i64 0∧j=.int .i64 20∧wr=W) (fun _ _ _=>1)
  case atStart=>exact⟨rfl,rfl,rfl⟩
  case round =>
   obtain⟨rfl,rfl,hW⟩:=hrel
   have HW:=hid hW
   clear hW
   go_wp2_with (go_at_call 162;refine(CI.out _).mono ?_;rintro e w1 ⟨rfl,h1⟩;rw[h1];clear h1)
   go_loopw [6] (fun i wr2=>i=.int .i64 20∧wr2=wr) (fun _ _=>1)
   case atStart=>exact⟨rfl,rfl⟩
   case round =>
    obtain⟨rfl,hw2⟩:=hrel
    have HW2:=hid (hw2.trans HW.out)
    clear hw2
    go_wp2
    go_end0
    exact⟨rfl,HW2.out⟩)
 go_enter Tryz.func115,Tryz.ntmps115
 go_wp2_with (go_at_call 143;refine(CS.out _).mono ?_;rintro e w1 ⟨rfl,rfl⟩)
 go_end0
 exact⟨rfl,rfl⟩
set_option maxRecDepth 100000 in
set_option maxHeartbeats 2000000 in
theorem sort_any {v:Value} {l:List Pt} (w:World) (ho:w.ownsRow 0 130 10 v l.length (l.flatMap ptC)) (hn:l.length≤24) (ht:l.Pairwise fun x y=>x.i<y.i) :
  Calls Tryz.prog 115 #[v,.func (.func 116) #[] #[]] w fun e w'=>e=.returned (.tuple #[])∧But (fun k=>v.ownBlock=some k) w w'∧∃ l':List Pt,w'.ownsRow 0 130 10 v l'.length (l'.flatMap ptC)∧l'.Perm l∧l'.Pairwise ltp:=by
 have ho':=ho
 obtain⟨h1,h2⟩:=ho
 rcases h2 with⟨rfl,h0⟩ | ⟨g,cap,cur,rfl,hg0,hh,hc,hm,hs,hts⟩
 ·have hl:l = []:=List.length_eq_zero_iff.1 h0
  subst hl
  exact(sort_nil 0 none _ w).mono fun e w' h=>⟨h.1,by rw[h.2];exact But.refl _ _, [],by rw[h.2];exact ho',List.Perm.refl _,List.Pairwise.nil⟩
 ·have R:=row_holds rfl ho'
  have hsz:l.toArray.size=l.length:=List.size_toArray
  have hT:Tks 0 l.toArray.size l.toArray:=fun i j _ hij hj=>by
   rw[hsz] at hj
   rw[getElem!_pos l.toArray i (by rw[hsz];omega),getElem!_pos l.toArray j (by rw[hsz];omega)]
   exact(List.pairwise_iff_getElem.1 ht) i j (by omega) hj hij
  have CS:=hid (stable_gen slP g 0 cap l.toArray l.toArray w w 116 #[] (enters_of Tryz.func116 (by kernel_rfl) rfl) (cmp_lays g 0 _ w) R rfl (SWK.start R.hH) (by rw[hsz];exact hn) hT)
  rw[hsz] at CS
  have HF:Hid (∀ w',(∃ d',SWK ptC 10 w g 0 d' w'∧PermIn 0 l.length l.toArray d'∧Srt 0 l.length d')→But (fun k=>(Value.slice (some ⟨g,0,none⟩) l.length cap).ownBlock=some k) w w'∧∃ l':List Pt,w'.ownsRow 0 130 10 (.slice (some ⟨g,0,none⟩) l.length cap) l'.length (l'.flatMap ptC)∧l'.Perm l∧l'.Pairwise ltp):=hid (fun w' ⟨d',s,p,srt⟩=>by
   have hd:d'.size=l.length:=p.1.trans hsz
   obtain⟨o,b⟩:=swk_row ho' hd s
   refine⟨b.mono (fun k _ e=>by cases e;rfl),d'.toList,?_,?_,?_⟩
   ·have e:d'.toList.length=l.length:=by rw[Array.length_toList];exact hd
    rw[e];exact o
   ·have q:=p.2.2
    rw[show l.length=d'.size from hd.symm,Array.extract_size,hd,show l.toArray.extract 0 l.length=l.toArray by rw[←hsz];exact Array.extract_size] at q
    exact q
   ·rw[List.pairwise_iff_getElem]
    intro i j hi hj hij
    have hj':j<d'.size:=by simpa using hj
    have:=srt i j (Nat.zero_le _) hij (by omega)
    rw[getElem!_pos d' i (by omega),getElem!_pos d' j hj'] at this
    simpa using this)
  clear hT R ho' hh hts hs hc hm
  go_enter Tryz.func115,Tryz.ntmps115
  go_wp2_with (go_at_call 143;refine CS.out.mono ?_;rintro e w1 ⟨rfl,hw1⟩;have HW1:=hid (HF.out _ hw1);clear hw1)
  go_end0
  exact⟨rfl,HW1.out⟩
end Go.Proofs.YtikcigjbhohboaaGreat.pln
end
