/- PlaceAnother: the walk, and the walk upon the program's own calls. -/
import Derived.Test.YtlecikdjoekknaaGreatM05
import Derived.Test.YtlecikdjoekknaaGreatM17
import Derived.Test.YtlecikdjoekknaaGreatM37
import Derived.Test.YtlecikdjoekknaaGreatM39
import Derived.Test.YtlecikdjoekknaaGreatM42
import Derived.Test.YtlecikdjoekknaaGreatM43
import Derived.Test.YtlecikdjoekknaaGreatM44
import Derived.Test.YtlecikdjoekknaaGreatM52
section
namespace Go.Proofs.YtlecikdjoekknaaGreat.pln
set_option linter.unusedVariables false
set_option linter.unusedSimpArgs false
open Go.ChangeShapes Go.WideShapes Go.ChangeAt Go.RowKit Go.Deep val ter
theorem mod_in {m r:Int} (hr:0≤r∧r≤8):0≤m % (8-r+1)∧m % (8-r+1)≤8-r:=by
 have h1:=Int.emod_nonneg m (b:=8-r+1) (by omega)
 have h2:=Int.emod_lt_of_pos m (b:=8-r+1) (by omega)
 omega
namespace placeAnother
set_option maxRecDepth 100000 in
set_option maxHeartbeats 16000000 in
theorem walk (P:PlaceIs) (s:Sys) (A:Option Addr) (c:Nat) (more:Int) (hm:inR more) (w:World) (hs:RSys w A s.ts.length c s) :
  Calls Tryz.prog 9 #[sysV s A s.ts.length c,.int .i64 more] w fun e w'=>e=.returned (.bool true)∧But No w w':=by
 have CX:Hid (∀ W,Calls Tryz.prog 10 #[] W fun e w'=>e=.returned (.bool true)∧But No W w'):=Lib.hid (fun W=>examples_ok P W)
 have CR:Hid (∀ W,But No w W→Calls Tryz.prog 16 #[sysV s A s.ts.length c] W fun e w'=>e=.returned (.bool (right s))∧But No W w'):=Lib.hid (fun W hb=>right_any s A _ c W (hs.no hb))
 have hB0:=(But.refl No w).alloc (.cells (boxS s A s.ts.length c) 24)
 have hS0:=Lib.hid (Blk.new w (boxS s A s.ts.length c) 24)
 have HB0:=Lib.hid hB0
 have BK:Hid (∀ W,But No (w.alloc (.cells (boxS s A s.ts.length c) 24)) W→S9 W w.heap.size s A s.ts.length c):=Lib.hid (fun W hb=>sys_cells (hS0.out.but hb (fun f=>f)))
 clear hB0
 cases hr:right s with
 | false =>
  rw[hr] at CR
  clear hr hs hS0 P
  unfold sysV at CR ⊢
  unfold boxS at BK HB0
  go_enter Tryz.func9,Tryz.ntmps9
  go_upto_region 2 with(go_at_call 10;(with_reducible refine(CX.out _).mono ?_);rintro e w1 ⟨rfl,h1⟩)
  have H1:=Lib.hid h1
  obtain⟨c0,c1,c2,c3,c4,c5,c6,c7,c8⟩:=BK.out _ H1.out
  clear h1
  go_wp2_with (go_at_call 16;(with_reducible refine(CR.out _ (HB0.out.trans H1.out)).mono ?_);rintro e w2 ⟨rfl,h2⟩;have H2:=Lib.hid h2;clear h2)
  go_ret
  exact⟨rfl,HB0.out.trans (H1.out.trans H2.out)⟩
 | true =>
  have hrs:=(right_len hr).2.1
  have hrs0:=hrs
  rw[hr] at CR
  obtain⟨m,hmm⟩:∃ m,(if more<0 then -(more+1) else more)=m:=⟨_,rfl⟩
  have hm0:0≤m∧m≤9223372036854775807:=by unfold inR at hm;rw[←hmm];split <;> omega
  obtain⟨r2,hr2⟩:∃ r2,s.rs+m % (8-s.rs+1)=r2:=⟨_,rfl⟩
  have hmi:=mod_in (m:=m) hrs
  have hr2b:s.rs≤r2∧r2≤8:=by omega
  have CP:Hid (∀ W,But No w W→Calls Tryz.prog 14 #[sysV s A s.ts.length c] W fun e w'=>∃ A1 N1 c1 B k,e=.returned (.tuple #[.slice A1 N1 c1,.slice B (plcV s).2.1.length k,.int .i64 (plcV s).2.2])∧But No W w'∧RPl w' A1 N1 (plcV s).1∧Rl w' B (plcV s).2.1.length (plcV s).2.1):=Lib.hid (fun W hb=>P s A _ c W (hs.no hb))
  have CQ:Hid (∀ W,But No w W→Calls Tryz.prog 14 #[.agg #[.int .i64 s.co,.int .i64 s.po,.int .i64 s.pr,.int .i64 s.re,.int .i64 s.sw,.int .i64 s.fi,.int .i64 s.la,.int .i64 r2,.slice A s.ts.length c]] W fun e w'=>∃ A1 N1 c1 B k,e=.returned (.tuple #[.slice A1 N1 c1,.slice B (plcV s).2.1.length k,.int .i64 (plcV s).2.2])∧But No W w'∧RPl w' A1 N1 (plcV s).1∧Rl w' B (plcV s).2.1.length (plcV s).2.1):=Lib.hid (fun W hb=>by
   have:=P (wr s r2) A s.ts.length c W ⟨(hs.no hb).cap,(hs.no hb).ts,by have:=hs.fit;unfold wr;dsimp only;exact⟨this.1,this.2.1,this.2.2.1,this.2.2.2.1,this.2.2.2.2.1,this.2.2.2.2.2.1,this.2.2.2.2.2.2.1,by unfold inR;omega⟩⟩
   rw[plc_wr hr hr2b.1 hr2b.2] at this
   exact this)
  have CN:Hid (∀ B k D q (zs:List Int) W,Rl W B zs.length zs→Rl W D zs.length zs→Calls Tryz.prog 13 #[.slice B zs.length k,.slice D zs.length q] W fun e w'=>e=.returned (.bool true)∧But No W w'):=Lib.hid (fun B k D q zs W h1 h2=>(numbers_any B D zs.length zs.length k q zs zs W h1 h2).mono fun e w' ⟨h3,h4⟩=>⟨by rw[h3];simp,h4⟩)
  generalize (plcV s).1=L at CP CQ
  generalize (plcV s).2.2=er at CP CQ
  have CN2:=Lib.hid (fun B k D q W=>CN.out B k D q (plcV s).2.1 W)
  generalize (plcV s).2.1=zs at CP CQ CN2
  generalize zs.length=nz at CP CQ CN2
  clear hr hs hS0 P CN
  unfold sysV at CR CP ⊢
  unfold boxS at BK HB0
  go_enter Tryz.func9,Tryz.ntmps9
  go_upto_region 2 with(go_at_call 10;(with_reducible refine(CX.out _).mono ?_);rintro e w1 ⟨rfl,h1⟩)
  have H1:=Lib.hid h1
  obtain⟨c0,c1,c2,c3,c4,c5,c6,c7,c8⟩:=BK.out _ H1.out
  clear h1
  go_upto_region 4 with(go_at_call 16;(with_reducible refine(CR.out _ (HB0.out.trans H1.out)).mono ?_);rintro e w2 ⟨rfl,h2⟩)
  have H2:=Lib.hid (H1.out.trans h2)
  clear c0 c1 c2 c3 c4 c5 c6 c7 c8 h2
  obtain⟨c0,c1,c2,c3,c4,c5,c6,c7,c8⟩:=BK.out _ H2.out
  have k1:decide (s.rs<0)=false:=by simp;omega
  have k2:decide (8<s.rs)=false:=by simp;omega
  have k3:¬s.rs<0:=by omega
  have k4:¬8<s.rs:=by omega
  have hmn:more<0 → -(more+1)=m:=fun h=>by rw[←hmm,if_pos h]
  have hmp:¬more<0→more=m:=fun h=>by rw[←hmm,if_neg h]
  clear hmm
  have hmt:m.tmod (8-s.rs+1)=m % (8-s.rs+1):=by rw[Int.tmod_eq_emod_of_nonneg hm0.1]
  obtain⟨md,hmd⟩:∃ md,m % (8-s.rs+1)=md:=⟨_,rfl⟩
  rw[hmd] at hmt hr2 hmi
  have hmd9:=hmd
  clear hmd
  have hmd:=hmd9
  clear hmd9
  obtain⟨dv,hdv⟩:∃ dv,8-s.rs+1=dv:=⟨_,rfl⟩
  rw[hdv] at hmt
  have hm00:0≤m:=hm0.1
  have hmd2:m % dv=md:=by rw[←hdv];exact hmd
  have hne:¬(dv=0):=by omega
  have hneb:(dv == 0)=false:=by rw[beq_eq_false_iff_ne];exact hne
  have hdb:1≤dv∧dv≤9:=by omega
  have hcs:(more<0 ∧ -(more+1)=m)∨(¬more<0∧more=m):=by
   by_cases h:more<0
   ·exact .inl ⟨h,hmn h⟩
   ·exact .inr ⟨h,hmp h⟩
  unfold inR at hm
  clear hmn hmp
  rcases hcs with⟨hlt,he⟩ | ⟨hlt,he⟩
  all_goals
   go_upto_region 9 with fail
   obtain⟨W3,hW3⟩:∃ W3,w2.alloc (.cells #[.int .i64 s.co,.int .i64 s.po,.int .i64 s.pr,.int .i64 s.re,.int .i64 s.sw,.int .i64 s.fi,.int .i64 s.la,.int .i64 s.rs,.slice A s.ts.length c] 24)=W3:=⟨_,rfl⟩
   have hb3:But No w2 W3:=by rw[←hW3];exact(But.refl No w2).alloc _
   have hx3:Blk W3 w2.heap.size (boxS s A s.ts.length c) 24:=by rw[←hW3];exact Blk.new w2 (boxS s A s.ts.length c) 24
   rw[hW3]
   have HB3:=Lib.hid (H2.out.trans hb3)
   have HX3:=Lib.hid hx3
   clear c0 c1 c2 c3 c4 c5 c6 c7 c8 hW3
   obtain⟨c0,c1,c2,c3,c4,c5,c6,c7,c8⟩:=BK.out _ HB3.out
   have y7:W3.cell? ⟨w2.heap.size,7,none⟩=some (.int .i64 s.rs):=hx3.cell rfl
   have z7:=hx3.frozen 7
   have hne2:w.heap.size≠w2.heap.size:=by have:=H2.out.size;rw[size_alloc1] at this;omega
   have HX4:Hid (∀ v,v=Value.int .i64 r2→But No w2 (W3.setCell ⟨w2.heap.size,7,none⟩ v).drew∧Blk (W3.setCell ⟨w2.heap.size,7,none⟩ v).drew w2.heap.size #[.int .i64 s.co,.int .i64 s.po,.int .i64 s.pr,.int .i64 s.re,.int .i64 s.sw,.int .i64 s.fi,.int .i64 s.la,.int .i64 r2,.slice A s.ts.length c] 24):=Lib.hid (fun v hv=>by subst hv;exact⟨(hb3.setNew (p:=⟨w2.heap.size,7,none⟩) (Nat.le_refl _) _).drew,hx3.set 7 _⟩)
   clear hb3 hx3
   go_region
   obtain⟨W4,hW4⟩:∃ W4,(W3.setCell ⟨w2.heap.size,7,none⟩ (.int .i64 r2)).drew=W4:=⟨_,rfl⟩
   have hx4:=HX4.out (.int .i64 r2) rfl
   rw[hW4] at hx4 ⊢
   have HX5:=Lib.hid hx4.2
   have HB4:=Lib.hid (H2.out.trans hx4.1)
   clear c0 c1 c2 c3 c4 c5 c6 c7 c8 y7 z7 HX4 hx4 hW4
   obtain⟨c0,c1,c2,c3,c4,c5,c6,c7,c8⟩:=BK.out _ HB4.out
   go_upto_region 11 with(go_at_call 14;(with_reducible refine(CP.out _ (HB0.out.trans HB4.out)).mono ?_);rintro e w5 ⟨A1,N1,k1,B1,q1,rfl,h5,r5,l5⟩)
   have H5:=Lib.hid (HB4.out.trans h5)
   have R5:=Lib.hid r5
   have L5:=Lib.hid l5
   have HX6:=Lib.hid (HX5.out.but h5 (fun f=>f))
   clear c0 c1 c2 c3 c4 c5 c6 c7 c8 h5 r5 l5 HX5
   have HX5:=HX6
   have y0:w5.cell? ⟨w2.heap.size,0,none⟩=some (.int .i64 s.co):=HX5.out.cell rfl
   have y1:w5.cell? ⟨w2.heap.size,1,none⟩=some (.int .i64 s.po):=HX5.out.cell rfl
   have y2:w5.cell? ⟨w2.heap.size,2,none⟩=some (.int .i64 s.pr):=HX5.out.cell rfl
   have y3:w5.cell? ⟨w2.heap.size,3,none⟩=some (.int .i64 s.re):=HX5.out.cell rfl
   have y4:w5.cell? ⟨w2.heap.size,4,none⟩=some (.int .i64 s.sw):=HX5.out.cell rfl
   have y5:w5.cell? ⟨w2.heap.size,5,none⟩=some (.int .i64 s.fi):=HX5.out.cell rfl
   have y6:w5.cell? ⟨w2.heap.size,6,none⟩=some (.int .i64 s.la):=HX5.out.cell rfl
   have y7:w5.cell? ⟨w2.heap.size,7,none⟩=some (.int .i64 r2):=HX5.out.cell rfl
   have y8:w5.cell? ⟨w2.heap.size,8,none⟩=some (.slice A s.ts.length c):=HX5.out.cell rfl
   go_upto_region 12 with(go_at_call 14;(with_reducible refine(CQ.out _ (HB0.out.trans H5.out)).mono ?_);rintro e w6 ⟨A2,N2,k2,B2,q2,rfl,h6,r6,l6⟩)
   have H6:=Lib.hid (H5.out.trans h6)
   have R6:=Lib.hid (And.intro (R5.out.no h6) r6)
   have hN:N2=N1:=by rw[←r6.len,←R5.out.len]
   have CN3:=Lib.hid (CN2.out B1 q1 B2 q2 w6 (L5.out.no h6) l6)
   subst hN
   clear y0 y1 y2 y3 y4 y5 y6 y7 y8 h6 r6 l6 HX5 HX6
   have be:(er == er)=true:=by simp
   have bn:(er != er)=false:=by simp
   have HNM:=R6.out.1.max
   have HLN:=R6.out.1.len
   go_wp2_with (go_at_call 13;(with_reducible refine CN3.out.mono ?_);rintro e w7 ⟨rfl,h7⟩;have H7:=Lib.hid h7;clear h7)
   go_loopw [14] (fun x wr=>∃ i:Nat,x=.int .i64 (i:Int)∧i≤N2∧Hid (But No w6 wr)) (fun x _=>N2-(intOf x).toNat)
   case atStart=>exact⟨0,rfl,by omega,H7.out⟩
   case round =>
    obtain⟨i,rfl,hi,HB7⟩:=hrel
    have hi0:(0:Int)≤(i:Int):=Int.natCast_nonneg i
    by_cases hin:i<N2
    ·have hin2:(i:Int)<(N2:Int):=by omega
     obtain⟨l,hl⟩:∃ l,L[i]? = some l:=⟨_,List.getElem?_eq_getElem (by omega)⟩
     obtain⟨ba,oa,Aa,ca,eA,_,e0,_,ra⟩:=(R6.out.1.no HB7.out).at1 hl
     obtain⟨bb,ob,Ab,cb,eB,_,f0,_,rb⟩:=(R6.out.2.no HB7.out).at1 hl
     subst eA eB
     have RA:=Lib.hid ra
     have RB:=Lib.hid rb
     have hlm:=ra.max
     clear hl ra rb
     generalize hlk:l.length=m1 at e0 f0 RA RB hlm
     have hb1:((m1:Int) == (m1:Int))=true:=by simp
     have hb2:((m1:Int) != (m1:Int))=false:=by simp
     go_wp2_with fail
     go_quiet (fail)
     go_wp2_with fail
     go_loopw [15] (fun x wr2=>∃ k:Nat,x=.int .i64 (k:Int)∧k≤m1∧Hid (But No wr wr2)) (fun x _=>m1-(intOf x).toNat)
     case atStart=>exact⟨0,rfl,by omega,by first | exact But.refl No _ | exact(But.refl No _).drew | exact(But.refl No _).drewN _⟩
     case round =>
      obtain⟨k,rfl,hk,HB8⟩:=hrel
      have hk0:(0:Int)≤(k:Int):=Int.natCast_nonneg k
      have e0':=cell_keep e0 HB8.out
      have f0':=cell_keep f0 HB8.out
      by_cases hkm:k<m1
      ·have hkm2:(k:Int)<(m1:Int):=by omega
       obtain⟨y,hy⟩:∃ y,l[k]? = some y:=⟨_,List.getElem?_eq_getElem (by omega)⟩
       obtain⟨bc,oc,rfl,_,p0,p1,p2,p3,p4⟩:=(RA.out.no HB8.out).at1 hy
       obtain⟨bd,od,rfl,_,q0,q1,q2,q3,q4⟩:=(RB.out.no HB8.out).at1 hy
       obtain⟨y0,y1,y2,y3,y4⟩:=y
       dsimp only at p0 p1 p2 p3 p4 q0 q1 q2 q3 q4
       clear hy
       go_wp2_with fail
       go_quiet (fail)
       go_wp2
       go_roundw
       case rel=>exact⟨k+1,by first | rfl | go_num,by omega,by first | exact HB8.out | exact HB8.out.drew | exact HB8.out.drewN _⟩
       case measure=>simp[intOf];omega
      ·have hkm2:¬(k:Int)<(m1:Int):=by omega
       go_wp2
       go_roundw
       case rel=>exact⟨i+1,by first | rfl | go_num,by omega,HB7.out.trans HB8.out⟩
       case measure=>simp[intOf];omega
    ·have hin2:¬(i:Int)<(N2:Int):=by omega
     go_wp2
     go_ret
     exact⟨rfl,HB0.out.trans (H6.out.trans HB7.out)⟩
end placeAnother
end Go.Proofs.YtlecikdjoekknaaGreat.pln
end
section
namespace Go.Proofs.YtlecikdjoekknaaGreat.placeAnother
open val pln
theorem walk (s:Sys) (A:Option Addr) (c:Nat) (more:Int) (hm:inR more) (w:World) (hs:RSys w A s.ts.length c s) :
  Calls Tryz.prog 9 #[sysV s A s.ts.length c,.int .i64 more] w fun e w'=>e=.returned (.bool true)∧But No w w' :=
 pln.placeAnother.walk place_is s A c more hm w hs
end Go.Proofs.YtlecikdjoekknaaGreat.placeAnother
end
