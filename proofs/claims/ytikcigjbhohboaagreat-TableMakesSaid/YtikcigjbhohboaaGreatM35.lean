/- Part 35 of a proof: PaN. -/
import Derived.Test.YtikcigjbhohboaaGreatM17
import Derived.Test.YtikcigjbhohboaaGreatM34
section
namespace Go.Proofs.YtikcigjbhohboaaGreat.pln
open Go.Lib (hid)
set_option linter.unusedVariables false
set_option linter.unusedSimpArgs false
open Go.ChangeShapes Go.WideShapes Go.ChangeAt Go.RowKit Go.Deep Go.Shelf val ter Go.Sort
attribute [local go_sem] Oper.semAt_some
def hoC (h:Int × Int × Int):List Value:=[.int .i64 h.1,.int .i64 h.2.1,.int .i64 h.2.2]
def ho1 (s:Sys) (wh:List Int) (z:Nat→Int) (x:Pt) (k:Nat):Int × Int × Int:=(holdV s wh (x.i:Int) (k:Int),x.p.pr,z ((s.ts.getD x.i ts0).secs.getD k (0,0,0)).2.1.toNat)
def hoX (s:Sys) (wh:List Int) (z:Nat→Int) (x:Pt):Nat→List (Int × Int × Int)
 | 0=>[]
 | k+1=>hoX s wh z x k ++ [ho1 s wh z x k]
def hoF (s:Sys) (wh:List Int) (z:Nat→Int) (l:List Pt):List (Int × Int × Int):=l.flatMap (fun x=>hoX s wh z x (s.ts.getD x.i ts0).secs.length)
theorem hoF_snoc {s:Sys} {wh:List Int} {z:Nat→Int} (l:List Pt) (x:Pt):hoF s wh z (l ++ [x])=hoF s wh z l ++ hoX s wh z x (s.ts.getD x.i ts0).secs.length:=by unfold hoF;simp
theorem hoX_len {s:Sys} {wh:List Int} {z:Nat→Int} {x:Pt}:∀ k,(hoX s wh z x k).length=k
 | 0=>rfl
 | k+1=>by rw[hoX,List.length_append,hoX_len k];rfl
theorem hoF_len {s:Sys} {wh:List Int} {z:Nat→Int} (h:∀ t ∈ s.ts,t.secs.length≤4):∀ l,(hoF s wh z l).length≤l.length*4
 | []=>Nat.le_refl _
 | x :: l=>by
  have ih:=hoF_len (wh:=wh) (z:=z) h l
  unfold hoF at ih ⊢
  rw[List.flatMap_cons,List.length_append,hoX_len,List.length_cons]
  have:(s.ts.getD x.i ts0).secs.length≤4:=by
   by_cases hx:x.i<s.ts.length
   ·have e:s.ts.getD x.i ts0=s.ts[x.i]:=by simp[List.getD,hx]
    rw[e];exact h _ (List.getElem_mem hx)
   ·have e:s.ts.getD x.i ts0=ts0:=by simp[List.getD,hx]
    rw[e];simp[ts0]
  omega
def HoS (W0:World) (g:Nat) (L:List (Int × Int × Int)) (W:World):Prop:=∃ v,Og 232 203 3 W0 g v L.length (L.flatMap hoC) W
theorem infoHo : (Tryz.prog.info? 232).map (fun i=>(i.zero,i.size,i.bytes))=some (some (.agg #[.int .i64 0,.int .i64 0,.int .i64 0]),3,24):=by kernel_rfl
theorem ho_one_reads (w:World) (x:Int × Int × Int) (t:TypeId):Reads (w.alloc (.cells #[.int .i64 x.1,.int .i64 x.2.1,.int .i64 x.2.2] t)) (w.heap.size+1) 3 (some ⟨w.heap.size,0,none⟩) 1 (hoC x) :=
 ⟨rfl,fun _=>⟨_,rfl,Nat.lt_succ_self _,World.news_of_block (cs:=#[.int .i64 x.1,.int .i64 x.2.1,.int .i64 x.2.2]) (t:=t) (fr:=(0,0)) (Blk.new w _ _)⟩⟩
theorem ho_one_cell (x:Int × Int × Int):∀ u ∈ hoC x,u.oneCell'=true:=by simp[hoC,Value.oneCell']
set_option linter.unusedSimpArgs false in
set_option maxRecDepth 100000 in
set_option maxHeartbeats 8000000 in
theorem holds_any {w0 w:World} {s:Sys} {A:Option Addr} {n c m b K:Nat} {F:Int→Int→Option Pt} {f:Nat→Int} (h:LY w0 w s A n c m b K F f) (hF:Fok n F) (hs:right s=true) (hn:n≤24) (co:Int) (hco:inR co) {rs:Nat} (hrs:s.rs=(rs:Int)) (hr8:rs≤8) :
  Calls Tryz.prog 133 #[lyV s A n c m b,.int .i64 co] w fun e w'=>∃ v,e=.returned v∧Rg 232 3 w w' v (hoF s ((List.range n).map f) (ceF s (onN F co n)) (onN F co n)).length ((hoF s ((List.range n).map f) (ceF s (onN F co n)) (onN F co n)).flatMap hoC):=by
 have CO:Hid (∀ W,Calls Tryz.prog 102 #[lyV s A n c m b,.int .i64 co] W fun e w'=>e=.returned (.func (.func 120) #[] #[.pointer (some ⟨W.heap.size,0,none⟩),.pointer (some ⟨W.heap.size+1,0,none⟩)])∧w'=(W.alloc (.cells (lyA s A n c m b) 123)).alloc (.cells #[.int .i64 co] 3)):=hid (fun W=>on_any s A n c m b co W)
 have CC:Hid (∀ W,But No w W→Calls Tryz.prog 74 #[lyV s A n c m b,.int .i64 co] W fun e w'=>∃ q,e=.returned (.slice (some ⟨q,0,none⟩) rs rs)∧CE W w' q rs (ceF s (onN F co n))):=hid (fun W hb=>ceil_any (h.no hb) hF hs hn co hco hrs hr8)
 have CS:Hid (∀ x ∈ onN F co n,∃ A4 c4,∃ t:Tsk,s.ts.getD x.i ts0=t∧t ∈ s.ts∧RSec w A4 t.secs.length t.secs∧t.secs.length≤c4∧∀ W,But No w W→Calls Tryz.prog 103 #[lyV s A n c m b,ptV x] W fun e w'=>e=.returned (.slice A4 t.secs.length c4)∧But No W w'):=hid (fun x hx=>by
  obtain⟨i,_,e⟩:=onN_mem hx
  have hlt:x.i<s.ts.length:=by rw[h.len];exact(hF.at_ _ _ _ e).2.2
  have ht:s.ts[x.i]? = some s.ts[x.i]:=List.getElem?_eq_getElem hlt
  obtain⟨A4,c4,hc,hsec,hcall⟩:=sects_any (m:=m) (b:=b) h.cur x ht
  exact⟨A4,c4,_,getT ht,List.getElem_mem hlt,hsec,hc,hcall⟩)
 have CH:Hid (∀ (x:Pt) (k:Nat) W,But No w W→Calls Tryz.prog 156 #[sysV s A n c,.slice (some ⟨b,0,none⟩) n n,.int .i64 (x.i:Int),.int .i64 (k:Int)] W fun e w'=>e=.returned (.int .i64 (holdV s ((List.range n).map f) (x.i:Int) (k:Int)))∧But No W w'):=hid (fun x k W hb=>hold_any s A n c (some ⟨b,0,none⟩) n n _ _ _ W (h.no hb).cur ((h.no hb).rd hn))
 have HRT:=hid hs
 have HMP:=hid h.map
 have hml:=h.map.lt
 have HRS:=hid hrs
 have HOL:=hid (onN_len (F:=F) (co:=co) n)
 have HFL:=hid (hoF_len (s:=s) (wh:=(List.range n).map f) (z:=ceF s (onN F co n)) (ter.right_len hs).2.2.2.2)
 obtain⟨ih,hi0,hz0,hz1,hz2⟩:=info_parts infoHo
 have IH:Hid (Tryz.prog.info? 232=some ih∧ih.zero=some (.agg #[.int .i64 0,.int .i64 0,.int .i64 0])∧ih.size=3∧ih.bytes=24):=⟨hi0,hz0,hz1,hz2⟩
 clear h hF hs hi0 hz0 hz1 hz2 hrs
 generalize (List.range n).map f=wh at CH HFL ⊢
 obtain⟨Z,hZ⟩:∃ Z,ceF s (onN F co n)=Z:=⟨_,rfl⟩
 rw[hZ] at CC HFL ⊢
 clear hZ
 have HW1:Hid (∀ W1 W2:World,W1=w.alloc (.cells (lyA s A n c m b) 123)→W2=W1.alloc (.cells #[.slice none 0 0] 203)→But No w W2∧W2.heap.size=w.heap.size+2∧Blk W2 w.heap.size (lyA s A n c m b) 123∧Blk W2 (w.heap.size+1) #[.slice none 0 0] 203):=hid (fun W1 W2 e1 e2=>by
  have s1:W1.heap.size=w.heap.size+1:=by rw[e1,size_alloc1]
  have b1:But No w W1:=by rw[e1];exact(But.refl No w).alloc _
  have b2:But No W1 W2:=by rw[e2];exact(But.refl No W1).alloc _
  have k1:Blk W1 w.heap.size (lyA s A n c m b) 123:=by rw[e1];exact Blk.new w _ _
  have k2:Blk W2 (w.heap.size+1) #[.slice none 0 0] 203:=by have:=Blk.new W1 #[.slice none 0 0] 203;rw[←e2,s1] at this;exact this
  exact⟨b1.trans b2,by rw[e2,size_alloc1,s1],k1.but b2 (fun f=>f),k2⟩)
 dsimp only[lyV,lyA,sysV] at CO CC CS CH HW1 ⊢
 refine(callsIn_wide (n:=8)).1 ?_
 refine callsIn_of_wp_marks Tryz.func133 rfl trivial ?_ rfl
 simp only[Tryz.ntmps133,List.size_toArray,List.length_cons,List.length_nil,Nat.reduceAdd,Nat.reduceSub,Array.replicate_succ,Array.replicate_zero,List.push_toArray,List.append_toArray,List.nil_append,List.cons_append]
 refine wpIn_wide.2 ?_
 go_upto_region 2 with fail
 obtain⟨hb2,hs2,hk1,hk2⟩:=HW1.out _ _ rfl rfl
 generalize (w.alloc (.cells #[.int .i64 s.co,.int .i64 s.po,.int .i64 s.pr,.int .i64 s.re,.int .i64 s.sw,.int .i64 s.fi,.int .i64 s.la,.int .i64 s.rs,.slice A n c,.map (some m),.slice (some ⟨b,0,none⟩) n n] 123)).alloc (.cells #[.slice none 0 0] 203)=w2 at hb2 hs2 hk1 hk2 ⊢
 obtain⟨⟨l0,l1,l2,l3,l4,l5,l6,l7,l8⟩,l9,l10⟩:=ly_cells hk1
 have HB2:=hid hb2
 have HK1:=hid hk1
 have HK2:=hid hk2
 clear HW1 hb2 hk1 hk2
 go_upto_region 3 with(go_at_call 74;(with_reducible refine(CC.out _ HB2.out).mono ?_);rintro e w3 ⟨qz,rfl,hce⟩;have HCE:=hid hce;clear hce)
 clear l0 l1 l2 l3 l4 l5 l6 l7 l8 l9 l10
 have hqz:w.heap.size+2≤qz:=by have:=HCE.out.h;omega
 have hqz3:qz<w3.heap.size:=HCE.out.v.lt
 have HW:Hid (∀ W3 W4 W5:World,W3=w3.alloc (.cells #[.slice (some ⟨qz,0,none⟩) rs rs] 26)→W4=W3.alloc (.cells #[.int .i64 s.co,.int .i64 s.po,.int .i64 s.pr,.int .i64 s.re,.int .i64 s.sw,.int .i64 s.fi,.int .i64 s.la,.int .i64 s.rs,.slice A n c,.map (some m),.slice (some ⟨b,0,none⟩) n n] 123)→W5=W4.alloc (.cells #[.int .i64 co] 3)→But No w3 W5∧W5.heap.size=w3.heap.size+3∧Blk W5 w3.heap.size #[.slice (some ⟨qz,0,none⟩) rs rs] 26∧Blk W5 (w3.heap.size+1) #[.int .i64 s.co,.int .i64 s.po,.int .i64 s.pr,.int .i64 s.re,.int .i64 s.sw,.int .i64 s.fi,.int .i64 s.la,.int .i64 s.rs,.slice A n c,.map (some m),.slice (some ⟨b,0,none⟩) n n] 123∧Blk W5 (w3.heap.size+1+1) #[.int .i64 co] 3):=hid (fun W2 W3 W4 e2 e3 e4=>by
  have s2:W2.heap.size=w3.heap.size+1:=by rw[e2,size_alloc1]
  have s3:W3.heap.size=w3.heap.size+1+1:=by rw[e3,size_alloc1,s2]
  have b2:But No w3 W2:=by rw[e2];exact(But.refl No w3).alloc _
  have b3:But No W2 W3:=by rw[e3];exact(But.refl No W2).alloc _
  have b4:But No W3 W4:=by rw[e4];exact(But.refl No W3).alloc _
  have k2:Blk W2 w3.heap.size #[.slice (some ⟨qz,0,none⟩) rs rs] 26:=by rw[e2];exact Blk.new w3 _ _
  have k3:Blk W3 (w3.heap.size+1) #[.int .i64 s.co,.int .i64 s.po,.int .i64 s.pr,.int .i64 s.re,.int .i64 s.sw,.int .i64 s.fi,.int .i64 s.la,.int .i64 s.rs,.slice A n c,.map (some m),.slice (some ⟨b,0,none⟩) n n] 123:=by have:=Blk.new W2 #[.int .i64 s.co,.int .i64 s.po,.int .i64 s.pr,.int .i64 s.re,.int .i64 s.sw,.int .i64 s.fi,.int .i64 s.la,.int .i64 s.rs,.slice A n c,.map (some m),.slice (some ⟨b,0,none⟩) n n] 123;rw[←e3,s2] at this;exact this
  have k4:Blk W4 (w3.heap.size+1+1) #[.int .i64 co] 3:=by have:=Blk.new W3 #[.int .i64 co] 3;rw[←e4,s3] at this;exact this
  exact⟨(b2.trans b3).trans b4,by rw[e4,size_alloc1,s3],(k2.but b3 (fun f=>f)).but b4 (fun f=>f),k3.but b4 (fun f=>f),k4⟩)
 obtain⟨⟨l0,l1,l2,l3,l4,l5,l6,l7,l8⟩,l9,l10⟩:L11 (w3.alloc (.cells #[.slice (some ⟨qz,0,none⟩) rs rs] 26)) w.heap.size s A n c m b:=ly_cells ((HK1.out.but HCE.out.but (fun f=>f)).but ((But.refl No w3).alloc _) (fun f=>f))
 go_wp2_with (go_at_call 102;refine(CO.out _).mono ?_;rintro e w4 ⟨rfl,rfl⟩)
 clear l0 l1 l2 l3 l4 l5 l6 l7 l8 l9 l10
 refine(wpIn_wide (n:=8)).1 ?_
 obtain⟨hB0,hs0,hk2,hk3,hk4⟩:=HW.out _ _ _ rfl rfl rfl
 generalize ((w3.alloc (.cells #[.slice (some ⟨qz,0,none⟩) rs rs] 26)).alloc (.cells #[.int .i64 s.co,.int .i64 s.po,.int .i64 s.pr,.int .i64 s.re,.int .i64 s.sw,.int .i64 s.fi,.int .i64 s.la,.int .i64 s.rs,.slice A n c,.map (some m),.slice (some ⟨b,0,none⟩) n n] 123)).alloc (.cells #[.int .i64 co] 3)=W0 at hB0 hs0 hk2 hk3 hk4 ⊢
 have HBW0:Hid (But No w W0):=hid ((HB2.out.trans HCE.out.but).trans hB0)
 have BL0:Hid (Blk W0 w.heap.size #[.int .i64 s.co,.int .i64 s.po,.int .i64 s.pr,.int .i64 s.re,.int .i64 s.sw,.int .i64 s.fi,.int .i64 s.la,.int .i64 s.rs,.slice A n c,.map (some m),.slice (some ⟨b,0,none⟩) n n] 123):=hid ((HK1.out.but HCE.out.but (fun f=>f)).but hB0 (fun f=>f))
 have BZ0:Hid (Vals W0 qz 3 rs (fun r=>.int .i64 (Z r))):=hid (HCE.out.v.but hB0 (fun f=>f))
 have BR0:=hid hk2
 have HLB:=hid hk3
 have HCB:=hid hk4
 have HM0:Hid (MP W0 m K F):=hid (HMP.out.no HBW0.out)
 have HOG:Hid (HoS W0 (w.heap.size+1) (hoF s wh Z []) W0):=hid ⟨_,But.refl _ W0,(HK2.out.but HCE.out.but (fun f=>f)).but hB0 (fun f=>f),World.ownsRow_nil _ _ _ _,own_none⟩
 have hw3:w.heap.size+2≤w3.heap.size:=by omega
 clear HW hB0 hk2 hk3 hk4
 refine wpIn_rangeFunc_ownH rfl (by omega) (gf:=120) (lb:=#[.pointer (some ⟨w3.heap.size+1,0,none⟩),.pointer (some ⟨w3.heap.size+1+1,0,none⟩)]) rfl trivial (enters_of Tryz.func120 (by kernel_rfl) rfl)
  (on_stops (8-1) (by omega) (w3.heap.size+1) (w3.heap.size+1+1) s A n c m b F co K (fun z=>w.heap.size≤z∧z≠w3.heap.size+1∧z≠w3.heap.size+1+1) (by omega) (by omega) (by omega) hco hn W0 HLB.out HCB.out HM0.out) But.trans (fun X l o o' hl ho hc _=>(But.refl _ X).grown (grownBy_putObj' _ l o') (fun z e=>by cases e;exact .inl ⟨by omega,by omega,by omega⟩)) (Below.refl _ _) (fun _=>rfl)
  (fun pre W=>HoS W0 (w.heap.size+1) (hoF s wh Z (vl pre)) W)
  (fun _ _ _=>False)
  (fun st X Y row hs hg hr=>by obtain⟨v,h1⟩:=hs;exact⟨v,h1.turn hg hr⟩)
  (fun _ _ _ _ _ hs _ _=>hs)
  HOG.out
  (fun x a' W=>∃ Bx,W0.heap.size≤Bx∧Blk W Bx (ptA x.1) 130∧a' = { tmps:=#[.agg #[.int .i64 s.co,.int .i64 s.po,.int .i64 s.pr,.int .i64 s.re,.int .i64 s.sw,.int .i64 s.fi,.int .i64 s.la,.int .i64 s.rs,.slice A n c,.map (some m),.slice (some ⟨b,0,none⟩) n n],.int .i64 co,.pointer (some ⟨w.heap.size,0,none⟩),undef,.slice none 0 0,.pointer (some ⟨w.heap.size+1,0,none⟩),.pointer (some ⟨w3.heap.size,0,none⟩),.pointer (some ⟨Bx,0,none⟩),undef,undef,.agg #[.int .i64 s.co,.int .i64 s.po,.int .i64 s.pr,.int .i64 s.re,.int .i64 s.sw,.int .i64 s.fi,.int .i64 s.la,.int .i64 s.rs,.slice A n c,.map (some m),.slice (some ⟨b,0,none⟩) n n],.int .i64 co,.slice (some ⟨qz,0,none⟩) rs rs,.agg #[.int .i64 s.co,.int .i64 s.po,.int .i64 s.pr,.int .i64 s.re,.int .i64 s.sw,.int .i64 s.fi,.int .i64 s.la,.int .i64 s.rs,.slice A n c,.map (some m),.slice (some ⟨b,0,none⟩) n n],.int .i64 co,.func (.func 120) #[] #[.pointer (some ⟨w3.heap.size+1,0,none⟩),.pointer (some ⟨w3.heap.size+1+1,0,none⟩)],ptV x.1,undef,undef,undef,undef,undef,undef,undef,undef,undef,undef,undef,undef,undef,undef,undef,undef,undef,undef,undef,undef,undef,undef,undef,undef,undef,undef,undef,undef,undef,undef,undef],defers:=[] })
  (fun x a' st X Y row hs hg hr=>by obtain⟨Bx,h1,h2,h3⟩:=hs;exact⟨Bx,h1,rsp.blk_turn h2 hg (fun k e=>(hr k e).2),h3⟩)
  ?assign ?body ?done ?stop
 case assign =>
  rintro lp pre x W K ⟨v,h1⟩ hK
  have hz:=h1.but.size
  dsimp only[ptV,ptA]
  gi_wp2
  exact hK _ _ ((KeepsOthers.alloc _ _).from _) ((But.refl _ W).alloc _) ⟨v,h1.no ((But.refl _ W).alloc _)⟩ ⟨W.heap.size,hz,Blk.new W _ _,rfl⟩
 case body =>
  rintro lp pre x a' W hl ⟨r,hr⟩ ⟨v,h1⟩ ⟨Bx,hBx,hbx,rfl⟩ hlt
  obtain⟨A4,c4,t,hT,hts,hsec,hc4,hcall⟩:=CS.out x.1 x.2
  have hL4:(hoF s wh Z (vl pre)).length+t.secs.length≤96∧t.secs.length≤4:=by
   have h2:=HFL.out (vl pre)
   have h3:=(ter.right_len HRT.out).2.2.2.2 t hts
   have h4:=vl_len pre
   have:=HOL.out
   omega
  obtain⟨Lx,hLx⟩:∃ Lx,hoF s wh Z (vl pre)=Lx:=⟨_,rfl⟩
  have HST:Hid (∀ W',HoS W0 (w.heap.size+1) (Lx ++ hoX s wh Z x.1 t.secs.length) W'→HoS W0 (w.heap.size+1) (hoF s wh Z (vl (pre ++ [x]))) W'):=hid (fun W' ho=>by
   rw[vl_snoc,hoF_snoc,hT,hLx]
   exact ho)
  rw[hLx] at h1 hL4
  have HXN:Hid (∀ k y,t.secs[k]? = some y→hoX s wh Z x.1 (k+1)=hoX s wh Z x.1 k ++ [(holdV s wh (x.1.i:Int) (k:Int),x.1.p.pr,Z y.2.1.toNat)]):=hid (fun k y hy=>by
   have e:t.secs.getD k (0,0,0)=y:=by simp[List.getD,hy]
   rw[hoX];unfold ho1;rw[hT,e])
  have CHX:Hid (∀ (k:Nat) X,But No w X→Calls Tryz.prog 156 #[.agg #[.int .i64 s.co,.int .i64 s.po,.int .i64 s.pr,.int .i64 s.re,.int .i64 s.sw,.int .i64 s.fi,.int .i64 s.la,.int .i64 s.rs,.slice A n c],.slice (some ⟨b,0,none⟩) n n,.int .i64 (x.1.i:Int),.int .i64 (k:Int)] X fun e w'=>e=.returned (.int .i64 (holdV s wh (x.1.i:Int) (k:Int)))∧But No X w'):=hid (fun k X hb=>CH.out x.1 k X hb)
  have CSX:Hid (∀ X,But No w X→Calls Tryz.prog 103 #[.agg #[.int .i64 s.co,.int .i64 s.po,.int .i64 s.pr,.int .i64 s.re,.int .i64 s.sw,.int .i64 s.fi,.int .i64 s.la,.int .i64 s.rs,.slice A n c,.map (some m),.slice (some ⟨b,0,none⟩) n n],ptV x.1] X fun e w'=>e=.returned (.slice A4 t.secs.length c4)∧But No X w'):=hid hcall
  have HWW:Hid (But No w W):=hid (HBW0.out.andThen' h1.but (fun i _ e=>by rw[show i=_ from e];omega))
  have H1:=hid h1
  have hsecW:=hid hsec
  have HTS:=hid hts
  have HYB:=hid (BL0.out.but h1.but (fun e=>by have e':w.heap.size=w.heap.size+1:=e;omega))
  have HBXX:=hid hbx
  have hBxW:=hbx.lt
  clear h1 hT hts hsec hcall hlt hl hr hLx
  obtain⟨⟨l0,l1,l2,l3,l4,l5,l6,l7,l8⟩,l9,l10⟩:=ly_cells HYB.out
  obtain⟨⟨⟨x0,x1,x2,x3,x4⟩,xi,xk,xl,xd,xj⟩,hx⟩:=x
  dsimp only at HST HXN CHX
  dsimp only[ptA] at hbx HBXX
  dsimp only[ptV] at CSX
  have d0:=hbx.cell (o:=0) rfl;have d1:=hbx.cell (o:=1) rfl;have d2:=hbx.cell (o:=2) rfl;have d3:=hbx.cell (o:=3) rfl;have d4:=hbx.cell (o:=4) rfl;have d5:=hbx.cell (o:=5) rfl;have d6:=hbx.cell (o:=6) rfl;have d7:=hbx.cell (o:=7) rfl;have d8:=hbx.cell (o:=8) rfl;have d9:=hbx.cell (o:=9) rfl
  clear hbx
  dsimp only[ptV]
  gi_wp2_with (refine⟨trivial,?_⟩;gi_at_call 103;refine(CallsIn.inRound lp (callsIn_wide.2 (CSX.out W HWW.out))).mono ?_;rintro e w5 ⟨rfl,h5⟩;have H5:=hid h5;clear h5)
  have HC3:=hid (H1.out.no H5.out)
  obtain⟨SL,hSL⟩:∃ SL,t.secs.length=SL:=⟨_,rfl⟩
  rw[hSL] at HST hc4 hL4 ⊢
  have HSL:=hid hSL
  clear hSL l0 l1 l2 l3 l4 l5 l6 l7 l8 l9 l10 d0 d1 d2 d3 d4 d5 d6 d7 d8 d9
  gi_loopw [21] (fun i wr=>∃ q:Nat,i=.int .i64 (q:Int)∧q≤SL∧Hid (HoS W0 (w.heap.size+1) (Lx ++ hoX s wh Z ⟨⟨x0,x1,x2,x3,x4⟩,xi,xk,xl,xd,xj⟩ q) wr∧But (fun z=>z=w.heap.size+1∨W0.heap.size≤z) W wr∧KeepsOthers W wr∧Blk wr Bx #[.int .i64 x0,.int .i64 x1,.int .i64 x2,.int .i64 x3,.bool x4,.int .i64 (xi:Int),.int .i64 (xk:Int),.bool xl,.int .i64 xd,.int .i64 xj] 130)) (fun i _=>SL-(intOf i).toNat)
  case atStart=>exact⟨0,rfl,by omega,⟨v,by rw[show hoX s wh Z ⟨⟨x0,x1,x2,x3,x4⟩,xi,xk,xl,xd,xj⟩ 0 = [] from rfl,List.append_nil];exact HC3.out⟩,H5.out.no,rsp.keeps_but H5.out,HBXX.out.but H5.out (fun f=>f)⟩
  case round =>
   obtain⟨q,rfl,hq,HI⟩:=hrel
   have hq0:(0:Int)≤(q:Int):=Int.natCast_nonneg q
   by_cases hqn:q<SL
   ·have hqn2:(q:Int)<(SL:Int):=by omega
    have b3:decide ((q:Int)<(SL:Int))=true:=by simp;omega
    obtain⟨y,hy⟩:∃ y,t.secs[q]? = some y:=⟨_,List.getElem?_eq_getElem (by rw[HSL.out];exact hqn)⟩
    have hWr:But No w wr:=HWW.out.andThen' HI.out.2.1 (fun i _ e=>by rcases e with e | e <;> omega)
    obtain⟨bS,offS,rfl,y0,y1,y2⟩:=(hsecW.out.no hWr).at1 hy
    have hyr:=(ter.right_sec HRT.out HTS.out (List.mem_of_getElem? hy)).1
    rw[HRS.out] at hyr
    obtain⟨rr,hrr⟩:∃ rr:Nat,y.2.1=(rr:Int):=⟨y.2.1.toNat,by omega⟩
    have hxn:=HXN.out q y hy
    rw[hrr] at y1 hyr hxn
    have hrr2:rr<rs:=by omega
    have hrr3:(rr:Int)<(rs:Int):=by omega
    have hrr0:(0:Int)≤(rr:Int):=Int.natCast_nonneg rr
    rw[show ((rr:Int)).toNat=rr from rfl] at hxn
    have HXX:=hid hxn
    obtain⟨v9,hog⟩:=HI.out.1
    have HOG9:=hid hog
    have hlen9:(Lx ++ hoX s wh Z ⟨⟨x0,x1,x2,x3,x4⟩,xi,xk,xl,xd,xj⟩ q).length≤96:=by rw[List.length_append,hoX_len];omega
    obtain⟨LL,hLL⟩:∃ LL,Lx ++ hoX s wh Z ⟨⟨x0,x1,x2,x3,x4⟩,xi,xk,xl,xd,xj⟩ q=LL:=⟨_,rfl⟩
    have HLL:=hid hLL
    rw[hLL] at HOG9 hlen9
    have CHQ:=hid (fun X hb=>CHX.out q X hb)
    obtain⟨O,hO⟩:∃ O,holdV s wh (xi:Int) (q:Int)=O:=⟨_,rfl⟩
    rw[hO] at HXX CHQ
    clear hy hrr hxn hog hLL hO
    obtain⟨ya,yb,yc⟩:=y
    dsimp only at y0 y1 y2
    obtain⟨v,hvv⟩:∃ v,v9=v:=⟨_,rfl⟩
    rw[hvv] at HOG9
    clear hvv
    have hg0:w.heap.size+1<W0.heap.size:=by omega
    have HNB:Hid (But No wr (wr.alloc (.cells #[.int .i64 ya,.int .i64 (rr:Int),.int .i64 yc] 120))∧Blk (wr.alloc (.cells #[.int .i64 ya,.int .i64 (rr:Int),.int .i64 yc] 120)) wr.heap.size #[.int .i64 ya,.int .i64 (rr:Int),.int .i64 yc] 120):=hid ⟨(But.refl No wr).alloc _,Blk.new wr _ _⟩
    gi_upto_region 8 with fail
    obtain⟨hbx,hpx⟩:=HNB.out
    generalize wr.alloc (.cells #[.int .i64 ya,.int .i64 (rr:Int),.int .i64 yc] 120)=wx at hbx hpx ⊢
    have HWX:=hid (hWr.trans hbx)
    have hogx:=HOG9.out.no hbx
    have hv1:∀ k,v.ownBlock=some k→k<wr.heap.size:=fun k e=>(World.ownsRow.lt HOG9.out.own k e).2
    have hv3:v.ownBlock≠some Bx:=row_ne_blk HOG9.out.own HI.out.2.2.2 (by decide)
    have hky:=(BL0.out.but hogx.but (fun e=>by have e':w.heap.size=w.heap.size+1:=e;omega))
    have hkr:=(BR0.out.but hogx.but (fun e=>by have e':w3.heap.size=w.heap.size+1:=e;omega)).cell (o:=0) rfl
    have hkz:=(BZ0.out.but hogx.but (fun e=>by have e':qz=w.heap.size+1:=e;omega)).cell hrr2
    have hkp:=HI.out.2.2.2.but hbx (fun f=>f)
    have KEEP:Hid (∀ w',But (fun z=>z=w.heap.size+1∨v.ownBlock=some z) wx w'→(fun w'=>L11 w' w.heap.size s A n c m b∧(w'.cell? ⟨Bx,3,none⟩=some (.int .i64 x3)∧w'.cell? ⟨Bx,5,none⟩=some (.int .i64 (xi:Int)))∧w'.cell? ⟨wr.heap.size,1,none⟩=some (.int .i64 (rr:Int))∧w'.cell? ⟨w3.heap.size,0,none⟩=some (.slice (some ⟨qz,0,none⟩) rs rs)∧w'.cell? ⟨qz,rr,none⟩=some (.int .i64 (Z rr))) w'):=hid (fun w' hb=>by
     have hv2:=HOG9.out.new
     have n1:¬(w.heap.size=w.heap.size+1∨v.ownBlock=some w.heap.size):=fun e=>by rcases e with e | e;omega;(have:=hv2 _ e;omega)
     have n2:¬(Bx=w.heap.size+1∨v.ownBlock=some Bx):=fun e=>by rcases e with e | e;omega;exact hv3 e
     have n3:¬(wr.heap.size=w.heap.size+1∨v.ownBlock=some wr.heap.size):=fun e=>by rcases e with e | e;(have:=HOG9.out.but.size;omega);(have:=hv1 _ e;omega)
     have n4:¬(w3.heap.size=w.heap.size+1∨v.ownBlock=some w3.heap.size):=fun e=>by rcases e with e | e;omega;(have:=hv2 _ e;omega)
     have n5:¬(qz=w.heap.size+1∨v.ownBlock=some qz):=fun e=>by rcases e with e | e;omega;(have:=hv2 _ e;omega)
     obtain⟨⟨k0,k1,k2,k3,k4,k5,k6,k7,k8⟩,k9,k10⟩:=ly_cells hky
     exact⟨⟨⟨cell_butS k0 hb n1,cell_butS k1 hb n1,cell_butS k2 hb n1,cell_butS k3 hb n1,cell_butS k4 hb n1,cell_butS k5 hb n1,cell_butS k6 hb n1,cell_butS k7 hb n1,cell_butS k8 hb n1⟩,cell_butS k9 hb n1,cell_butS k10 hb n1⟩,⟨cell_butS (hkp.cell (o:=3) rfl) hb n2,cell_butS (hkp.cell (o:=5) rfl) hb n2⟩,cell_butS (hpx.cell (o:=1) rfl) hb n3,cell_butS hkr hb n4,cell_butS hkz hb n5⟩)
    have FLD:Hid (∀ w',But No wx w'→w'.cell? ⟨w.heap.size+1,0,none⟩=some v∧w'.frozen? ⟨w.heap.size+1,0,none⟩=false):=hid (fun w' hb=>⟨(hogx.no hb).blk.cell (o:=0) rfl,(hogx.no hb).blk.frozen 0⟩)
    have OWN:Hid (∀ w',But No wx w'→w'.ownsRow 0 232 3 v LL.length (LL.flatMap hoC)):=hid (fun w' hb=>(hogx.no hb).own)
    have HKW:=HI.out.2.2.1
    have HBW9:=HI.out.2.1
    have AFT:Hid (∀ w8 w5 A5 c5,But No wx w8→w5.ownsRow 0 232 3 (.slice A5 (LL.length+1) c5) (LL.length+1) (LL.flatMap hoC ++ hoC (O,x3,Z rr))→w8.grownBy w5 v.ownBlock→((Value.slice A5 (LL.length+1) c5).ownBlock=v.ownBlock∨(Value.slice A5 (LL.length+1) c5).ownBlock=some w8.heap.size) →
      (w5.cell? ⟨w.heap.size+1,0,none⟩=some v∧w5.frozen? ⟨w.heap.size+1,0,none⟩=false)∧But (fun z=>z=w.heap.size+1∨v.ownBlock=some z) wx w5∧But (fun z=>z=w.heap.size+1∨v.ownBlock=some z) wx (w5.setCell ⟨w.heap.size+1,0,none⟩ (.slice A5 (LL.length+1) c5)) ∧
      (HoS W0 (w.heap.size+1) (LL ++ [(O,x3,Z rr)]) (w5.setCell ⟨w.heap.size+1,0,none⟩ (.slice A5 (LL.length+1) c5))∧But (fun z=>z=w.heap.size+1∨W0.heap.size≤z) W (w5.setCell ⟨w.heap.size+1,0,none⟩ (.slice A5 (LL.length+1) c5))∧KeepsOthers W (w5.setCell ⟨w.heap.size+1,0,none⟩ (.slice A5 (LL.length+1) c5))∧Blk (w5.setCell ⟨w.heap.size+1,0,none⟩ (.slice A5 (LL.length+1) c5)) Bx #[.int .i64 x0,.int .i64 x1,.int .i64 x2,.int .i64 x3,.bool x4,.int .i64 (xi:Int),.int .i64 (xk:Int),.bool xl,.int .i64 xd,.int .i64 xj] 130)):=hid (fun w8 w5 A5 c5 hb8 hown hgrow hat=>by
     have hp:=hogx.push hg0 hb8 hown hgrow hat
     have hbk:=hogx.box hg0 hb8 hgrow
     have hs8:wr.heap.size≤w8.heap.size:=Nat.le_trans hbx.size hb8.size
     have h8:But (fun z=>z=w.heap.size+1∨v.ownBlock=some z) wx w8:=hb8.no
     have h5:But (fun z=>z=w.heap.size+1∨v.ownBlock=some z) wx w5:=h8.grown hgrow (fun k e=>.inl (.inr e))
     have h6:But (fun z=>z=w.heap.size+1∨v.ownBlock=some z) wx (w5.setCell ⟨w.heap.size+1,0,none⟩ (.slice A5 (LL.length+1) c5)):=h5.setCell (p:=⟨w.heap.size+1,0,none⟩) (.inl rfl) _
     refine⟨⟨hbk.cell (o:=0) rfl,hbk.frozen 0⟩,h5,h6,⟨.slice A5 (LL.length+1) c5,?_⟩,(HBW9.trans hbx.no).trans hp.2.2,(HKW.trans (rsp.keeps_but hbx)).trans hp.2.1,hkp.but h6 (fun e=>by rcases e with e | e;omega;exact hv3 e)⟩
     have e1:(LL ++ [(O,x3,Z rr)]).length=LL.length+1:=by simp
     have e2:(LL ++ [(O,x3,Z rr)]).flatMap hoC=LL.flatMap hoC ++ hoC (O,x3,Z rr):=by simp
     rw[e1,e2]
     exact hp.1)
    have FIN:Hid (∀ w6,(HoS W0 (w.heap.size+1) (LL ++ [(O,x3,Z rr)]) w6∧But (fun z=>z=w.heap.size+1∨W0.heap.size≤z) W w6∧KeepsOthers W w6∧Blk w6 Bx #[.int .i64 x0,.int .i64 x1,.int .i64 x2,.int .i64 x3,.bool x4,.int .i64 (xi:Int),.int .i64 (xk:Int),.bool xl,.int .i64 xd,.int .i64 xj] 130)→(∃ q9:Nat,Value.int .i64 ((q:Int)+1)=.int .i64 (q9:Int)∧q9≤SL∧Hid (HoS W0 (w.heap.size+1) (Lx ++ hoX s wh Z ⟨⟨x0,x1,x2,x3,x4⟩,xi,xk,xl,xd,xj⟩ q9) w6∧But (fun z=>z=w.heap.size+1∨W0.heap.size≤z) W w6∧KeepsOthers W w6∧Blk w6 Bx #[.int .i64 x0,.int .i64 x1,.int .i64 x2,.int .i64 x3,.bool x4,.int .i64 (xi:Int),.int .i64 (xk:Int),.bool xl,.int .i64 xd,.int .i64 xj] 130))∧SL-(intOf (.int .i64 ((q:Int)+1))).toNat<SL-(intOf (.int .i64 (q:Int))).toNat):=hid (fun w6 h6=>⟨⟨q+1,rfl,by omega,by rw[HXX.out,←List.append_assoc,HLL.out];exact h6⟩,by simp only[intOf];omega⟩)
    clear hogx hky hkr hkz hkp hpx hbx hWr y0 y1 y2 hv1 hv3 HKW HBW9 HNB
    refine region_round_held (S:=(fun w'=>L11 w' w.heap.size s A n c m b∧(w'.cell? ⟨Bx,3,none⟩=some (.int .i64 x3)∧w'.cell? ⟨Bx,5,none⟩=some (.int .i64 (xi:Int)))∧w'.cell? ⟨wr.heap.size,1,none⟩=some (.int .i64 (rr:Int))∧w'.cell? ⟨w3.heap.size,0,none⟩=some (.slice (some ⟨qz,0,none⟩) rs rs)∧w'.cell? ⟨qz,rr,none⟩=some (.int .i64 (Z rr)))) (by kernel_rfl) (by kernel_rfl) (KEEP.out _ (But.refl _ wx).drew) (fun hHeld=>?_)
    refine wpAnyH_take (i:=1) (v:=?v1) rfl (by kernel_rfl) (by kernel_rfl) (by kernel_rfl) (fun _ _ _ h=>(by cases h.1)) (Or.inl ⟨by rfl,?hy1⟩) (by assumption) ?rest1
    case hy1=>(intro w hSw;(try dsimp only at hSw);go_simp <;> with_reducible rfl)
    try simp only[Act.put,List.setIfInBounds_toArray,List.set_cons_zero,List.set_cons_succ]
    refine wpAnyH_take (i:=2) (v:=?v2) rfl (by kernel_rfl) (by kernel_rfl) (by kernel_rfl) (fun _ _ _ h=>(by cases h.1)) (Or.inl ⟨by rfl,?hy2⟩) (by assumption) ?rest2
    case hy2=>(intro w hSw;(try dsimp only at hSw);go_simp <;> with_reducible rfl)
    try simp only[Act.put,List.setIfInBounds_toArray,List.set_cons_zero,List.set_cons_succ]
    refine wpAnyH_take (i:=3) (v:=?v3) rfl (by kernel_rfl) (by kernel_rfl) (by kernel_rfl) (fun _ _ _ h=>(by cases h.1)) (Or.inl ⟨by rfl,?hy3⟩) (by assumption) ?rest3
    case hy3=>(intro w hSw;(try dsimp only at hSw);go_simp <;> with_reducible rfl)
    try simp only[Act.put,List.setIfInBounds_toArray,List.set_cons_zero,List.set_cons_succ]
    refine wpAnyH_take (i:=4) (v:=?v4) rfl (by kernel_rfl) (by kernel_rfl) (by kernel_rfl) (fun _ _ _ h=>(by cases h.1)) (Or.inl ⟨by rfl,?hy4⟩) (by assumption) ?rest4
    case hy4=>(intro w hSw;(try dsimp only at hSw);go_simp <;> with_reducible rfl)
    try simp only[Act.put,List.setIfInBounds_toArray,List.set_cons_zero,List.set_cons_succ]
    refine wpAnyH_take (i:=5) (v:=?v5) rfl (by kernel_rfl) (by kernel_rfl) (by kernel_rfl) (fun _ _ _ h=>(by cases h.1)) (Or.inl ⟨by rfl,?hy5⟩) (by assumption) ?rest5
    case hy5=>(intro w hSw;(try dsimp only at hSw);go_simp <;> with_reducible rfl)
    try simp only[Act.put,List.setIfInBounds_toArray,List.set_cons_zero,List.set_cons_succ]
    refine wpAnyH_take (i:=6) (v:=?v6) rfl (by kernel_rfl) (by kernel_rfl) (by kernel_rfl) (fun _ _ _ h=>(by cases h.1)) (Or.inl ⟨by rfl,?hy6⟩) (by assumption) ?rest6
    case hy6=>(intro w hSw;(try dsimp only at hSw);go_simp <;> with_reducible rfl)
    try simp only[Act.put,List.setIfInBounds_toArray,List.set_cons_zero,List.set_cons_succ]
    refine wpAnyH_take (i:=7) (v:=?v7) rfl (by kernel_rfl) (by kernel_rfl) (by kernel_rfl) (fun _ _ _ h=>(by cases h.1)) (Or.inl ⟨by rfl,?hy7⟩) (by assumption) ?rest7
    case hy7=>(intro w hSw;(try dsimp only at hSw);go_simp <;> with_reducible rfl)
    try simp only[Act.put,List.setIfInBounds_toArray,List.set_cons_zero,List.set_cons_succ]
    refine wpAnyH_take (i:=9) (v:=?v8) rfl (by kernel_rfl) (by kernel_rfl) (by kernel_rfl) (fun _ _ _ h=>(by cases h.1)) (Or.inl ⟨by rfl,?hy8⟩) (by assumption) ?rest8
    case hy8=>(intro w hSw;(try dsimp only at hSw);go_simp <;> with_reducible rfl)
    try simp only[Act.put,List.setIfInBounds_toArray,List.set_cons_zero,List.set_cons_succ]
    refine wpAnyH_take (i:=10) (v:=?v9) rfl (by kernel_rfl) (by kernel_rfl) (by kernel_rfl) (fun _ _ _ h=>(by cases h.1)) (Or.inl ⟨by rfl,?hy9⟩) (by assumption) ?rest9
    case hy9=>(intro w hSw;(try dsimp only at hSw);go_simp <;> with_reducible rfl)
    try simp only[Act.put,List.setIfInBounds_toArray,List.set_cons_zero,List.set_cons_succ]
    refine wpAnyH_take (i:=11) (v:=?v10) rfl (by kernel_rfl) (by kernel_rfl) (by kernel_rfl) (fun _ _ _ h=>(by cases h.1)) (Or.inl ⟨by rfl,?hy10⟩) (by assumption) ?rest10
    case hy10=>(intro w hSw;(try dsimp only at hSw);go_simp <;> with_reducible rfl)
    try simp only[Act.put,List.setIfInBounds_toArray,List.set_cons_zero,List.set_cons_succ]
    refine wpAnyH_take (i:=12) (v:=?v11) rfl (by kernel_rfl) (by kernel_rfl) (by kernel_rfl) (fun _ _ _ h=>(by cases h.1)) (Or.inl ⟨by rfl,?hy11⟩) (by assumption) ?rest11
    case hy11=>(intro w hSw;(try dsimp only at hSw);go_simp <;> with_reducible rfl)
    try simp only[Act.put,List.setIfInBounds_toArray,List.set_cons_zero,List.set_cons_succ]
    refine wpAnyH_take (i:=13) (v:=?v12) rfl (by kernel_rfl) (by kernel_rfl) (by kernel_rfl) (fun _ _ _ h=>(by cases h.1)) (Or.inl ⟨by rfl,?hy12⟩) (by assumption) ?rest12
    case hy12=>(intro w hSw;(try dsimp only at hSw);go_simp <;> with_reducible rfl)
    try simp only[Act.put,List.setIfInBounds_toArray,List.set_cons_zero,List.set_cons_succ]
    refine wpAnyH_take (i:=14) (v:=?v13) rfl (by kernel_rfl) (by kernel_rfl) (by kernel_rfl) (fun _ _ _ h=>(by cases h.1)) (Or.inl ⟨by rfl,?hy13⟩) (by assumption) ?rest13
    case hy13=>(intro w hSw;(try dsimp only at hSw);go_simp <;> with_reducible rfl)
    try simp only[Act.put,List.setIfInBounds_toArray,List.set_cons_zero,List.set_cons_succ]
    refine wpAnyH_take (i:=15) (v:=?v14) rfl (by kernel_rfl) (by kernel_rfl) (by kernel_rfl) (fun _ _ _ h=>(by cases h.1)) (Or.inl ⟨by rfl,?hy14⟩) (by assumption) ?rest14
    case hy14=>(intro w hSw;(try dsimp only at hSw);go_simp <;> with_reducible rfl)
    try simp only[Act.put,List.setIfInBounds_toArray,List.set_cons_zero,List.set_cons_succ]
    refine wpAnyH_take (i:=16) (v:=?v15) rfl (by kernel_rfl) (by kernel_rfl) (by kernel_rfl) (fun _ _ _ h=>(by cases h.1)) (Or.inl ⟨by rfl,?hy15⟩) (by assumption) ?rest15
    case hy15=>(intro w hSw;(try dsimp only at hSw);go_simp <;> with_reducible rfl)
    try simp only[Act.put,List.setIfInBounds_toArray,List.set_cons_zero,List.set_cons_succ]
    refine wpAnyH_ready (rs:=[0,8]) (by kernel_rfl) (by simp) ?_
    refine AllReadyH.cons rfl (fun K hK=>?_) ?_
    ·skip
     have e0:=(FLD.out _ (But.refl No wx).drew).1
     go_simp
     refine hK.out _ _ (KEEP.out _ (But.refl _ wx).drew) (fun hHeld=>?_)
     clear hK K
     try simp only[Act.put,List.setIfInBounds_toArray,List.set_cons_zero,List.set_cons_succ]
     clear e0
     refine wpAnyH_ready (rs:=[8]) (by kernel_rfl) (by simp) ?_
     refine AllReadyH.cons rfl (fun K hK=>?_) AllReadyH.nil
     (go_simp;go_at_call 156;(with_reducible refine(CHQ.out _ (HWX.out.trans (But.refl No wx).drew)).mono ?_);rintro e wC ⟨rfl,hbC⟩;have HBC:Hid (But No wx wC):=hid ((But.refl No wx).drew.trans hbC);clear hbC)
     refine hK.out _ _ (KEEP.out _ HBC.out.no) (fun hHeld=>?_)
     clear hK K
     try simp only[Act.put,List.setIfInBounds_toArray,List.set_cons_zero,List.set_cons_succ]
     refine wpAnyH_take (i:=17) (v:=?v16) rfl (by kernel_rfl) (by kernel_rfl) (by kernel_rfl) (fun _ _ _ h=>(by cases h.1)) (Or.inl ⟨by rfl,?hy16⟩) (by assumption) ?rest16
     case hy16=>(intro w hSw;(try dsimp only at hSw);go_simp <;> with_reducible rfl)
     try simp only[Act.put,List.setIfInBounds_toArray,List.set_cons_zero,List.set_cons_succ]
     refine wpAnyH_ready (rs:=[18]) (by kernel_rfl) (by simp) ?_
     refine AllReadyH.cons rfl (fun K hK=>?_) AllReadyH.nil
     go_simp
     refine hK.out _ _ (KEEP.out _ (HBC.out.alloc _).no) (fun hHeld=>?_)
     clear hK K
     try simp only[Act.put,List.setIfInBounds_toArray,List.set_cons_zero,List.set_cons_succ]
     refine wpAnyH_ready (rs:=[19]) (by kernel_rfl) (by simp) ?_
     refine AllReadyH.cons rfl (fun K hK=>?_) AllReadyH.nil
     refine step_append_sh rfl _ _ 203 rfl 232 ih _ 3 24 Tryz.underlying203 IH.out.1 IH.out.2.1 IH.out.2.2.1 IH.out.2.2.2 rfl (by omega) v LL.length (LL.flatMap hoC) (by simp[Act.eval]) (OWN.out _ (HBC.out.alloc (.cells #[.int .i64 O,.int .i64 x3,.int .i64 (Z rr)] 232))) (wC.heap.size+1) (some ⟨wC.heap.size,0,none⟩) 1 1 (hoC (O,x3,Z rr)) (by simp[Act.eval]) (ho_one_reads wC (O,x3,Z rr) _) (ho_one_cell _) (by unfold maxLen;omega) (by omega) ?_
     intro A5 c5 w5 hown5 hgrow5 hat5
     have HP5:=hid (AFT.out _ w5 A5 c5 (HBC.out.alloc (.cells #[.int .i64 O,.int .i64 x3,.int .i64 (Z rr)] 232)) hown5.out hgrow5.out hat5.out)
     have e0:=HP5.out.1.1
     have e1:=HP5.out.1.2
     clear hown5 hgrow5 hat5
     refine hK.out _ _ (KEEP.out _ HP5.out.2.1) (fun hHeld=>?_)
     clear hK K
     try simp only[Act.put,List.setIfInBounds_toArray,List.set_cons_zero,List.set_cons_succ]
     refine wpAnyH_ready (rs:=[20]) (by kernel_rfl) (by simp) ?_
     refine AllReadyH.cons rfl (fun K hK=>?_) AllReadyH.nil
     go_simp
     refine hK.out _ _ (KEEP.out _ HP5.out.2.2.1) (fun hHeld=>?_)
     clear hK K
     try simp only[Act.put,List.setIfInBounds_toArray,List.set_cons_zero,List.set_cons_succ]
     refine wpAnyH_done (by kernel_rfl) ?_ _
     refine⟨rfl,?_⟩
     clear e0 e1 hHeld
     gi_wp2_with fail
     exact FIN.out _ HP5.out.2.2.2
    ·skip
     refine AllReadyH.cons rfl (fun K hK=>?_) AllReadyH.nil
     (go_simp;go_at_call 156;(with_reducible refine(CHQ.out _ (HWX.out.trans (But.refl No wx).drew)).mono ?_);rintro e wC ⟨rfl,hbC⟩;have HBC:Hid (But No wx wC):=hid ((But.refl No wx).drew.trans hbC);clear hbC)
     refine hK.out _ _ (KEEP.out _ HBC.out.no) (fun hHeld=>?_)
     clear hK K
     try simp only[Act.put,List.setIfInBounds_toArray,List.set_cons_zero,List.set_cons_succ]
     refine wpAnyH_take (i:=17) (v:=?v17) rfl (by kernel_rfl) (by kernel_rfl) (by kernel_rfl) (fun _ _ _ h=>(by cases h.1)) (Or.inl ⟨by rfl,?hy17⟩) (by assumption) ?rest17
     case hy17=>(intro w hSw;(try dsimp only at hSw);go_simp <;> with_reducible rfl)
     try simp only[Act.put,List.setIfInBounds_toArray,List.set_cons_zero,List.set_cons_succ]
     refine wpAnyH_ready (rs:=[0,18]) (by kernel_rfl) (by simp) ?_
     refine AllReadyH.cons rfl (fun K hK=>?_) ?_
     ·skip
      have e0:=(FLD.out _ HBC.out).1
      go_simp
      refine hK.out _ _ (KEEP.out _ HBC.out.no) (fun hHeld=>?_)
      clear hK K
      try simp only[Act.put,List.setIfInBounds_toArray,List.set_cons_zero,List.set_cons_succ]
      clear e0
      refine wpAnyH_ready (rs:=[18]) (by kernel_rfl) (by simp) ?_
      refine AllReadyH.cons rfl (fun K hK=>?_) AllReadyH.nil
      go_simp
      refine hK.out _ _ (KEEP.out _ (HBC.out.alloc _).no) (fun hHeld=>?_)
      clear hK K
      try simp only[Act.put,List.setIfInBounds_toArray,List.set_cons_zero,List.set_cons_succ]
      refine wpAnyH_ready (rs:=[19]) (by kernel_rfl) (by simp) ?_
      refine AllReadyH.cons rfl (fun K hK=>?_) AllReadyH.nil
      refine step_append_sh rfl _ _ 203 rfl 232 ih _ 3 24 Tryz.underlying203 IH.out.1 IH.out.2.1 IH.out.2.2.1 IH.out.2.2.2 rfl (by omega) v LL.length (LL.flatMap hoC) (by simp[Act.eval]) (OWN.out _ (HBC.out.alloc (.cells #[.int .i64 O,.int .i64 x3,.int .i64 (Z rr)] 232))) (wC.heap.size+1) (some ⟨wC.heap.size,0,none⟩) 1 1 (hoC (O,x3,Z rr)) (by simp[Act.eval]) (ho_one_reads wC (O,x3,Z rr) _) (ho_one_cell _) (by unfold maxLen;omega) (by omega) ?_
      intro A5 c5 w5 hown5 hgrow5 hat5
      have HP5:=hid (AFT.out _ w5 A5 c5 (HBC.out.alloc (.cells #[.int .i64 O,.int .i64 x3,.int .i64 (Z rr)] 232)) hown5.out hgrow5.out hat5.out)
      have e0:=HP5.out.1.1
      have e1:=HP5.out.1.2
      clear hown5 hgrow5 hat5
      refine hK.out _ _ (KEEP.out _ HP5.out.2.1) (fun hHeld=>?_)
      clear hK K
      try simp only[Act.put,List.setIfInBounds_toArray,List.set_cons_zero,List.set_cons_succ]
      refine wpAnyH_ready (rs:=[20]) (by kernel_rfl) (by simp) ?_
      refine AllReadyH.cons rfl (fun K hK=>?_) AllReadyH.nil
      go_simp
      refine hK.out _ _ (KEEP.out _ HP5.out.2.2.1) (fun hHeld=>?_)
      clear hK K
      try simp only[Act.put,List.setIfInBounds_toArray,List.set_cons_zero,List.set_cons_succ]
      refine wpAnyH_done (by kernel_rfl) ?_ _
      refine⟨rfl,?_⟩
      clear e0 e1 hHeld
      gi_wp2_with fail
      exact FIN.out _ HP5.out.2.2.2
     ·skip
      refine AllReadyH.cons rfl (fun K hK=>?_) AllReadyH.nil
      go_simp
      refine hK.out _ _ (KEEP.out _ (HBC.out.alloc _).no) (fun hHeld=>?_)
      clear hK K
      try simp only[Act.put,List.setIfInBounds_toArray,List.set_cons_zero,List.set_cons_succ]
      have e0:=(FLD.out _ (HBC.out.alloc (.cells #[.int .i64 O,.int .i64 x3,.int .i64 (Z rr)] 232))).1
      refine wpAnyH_ready (rs:=[0]) (by kernel_rfl) (by simp) ?_
      refine AllReadyH.cons rfl (fun K hK=>?_) AllReadyH.nil
      go_simp
      refine hK.out _ _ (KEEP.out _ (HBC.out.alloc _).no) (fun hHeld=>?_)
      clear hK K
      try simp only[Act.put,List.setIfInBounds_toArray,List.set_cons_zero,List.set_cons_succ]
      clear e0
      refine wpAnyH_ready (rs:=[19]) (by kernel_rfl) (by simp) ?_
      refine AllReadyH.cons rfl (fun K hK=>?_) AllReadyH.nil
      refine step_append_sh rfl _ _ 203 rfl 232 ih _ 3 24 Tryz.underlying203 IH.out.1 IH.out.2.1 IH.out.2.2.1 IH.out.2.2.2 rfl (by omega) v LL.length (LL.flatMap hoC) (by simp[Act.eval]) (OWN.out _ (HBC.out.alloc (.cells #[.int .i64 O,.int .i64 x3,.int .i64 (Z rr)] 232))) (wC.heap.size+1) (some ⟨wC.heap.size,0,none⟩) 1 1 (hoC (O,x3,Z rr)) (by simp[Act.eval]) (ho_one_reads wC (O,x3,Z rr) _) (ho_one_cell _) (by unfold maxLen;omega) (by omega) ?_
      intro A5 c5 w5 hown5 hgrow5 hat5
      have HP5:=hid (AFT.out _ w5 A5 c5 (HBC.out.alloc (.cells #[.int .i64 O,.int .i64 x3,.int .i64 (Z rr)] 232)) hown5.out hgrow5.out hat5.out)
      have e0:=HP5.out.1.1
      have e1:=HP5.out.1.2
      clear hown5 hgrow5 hat5
      refine hK.out _ _ (KEEP.out _ HP5.out.2.1) (fun hHeld=>?_)
      clear hK K
      try simp only[Act.put,List.setIfInBounds_toArray,List.set_cons_zero,List.set_cons_succ]
      refine wpAnyH_ready (rs:=[20]) (by kernel_rfl) (by simp) ?_
      refine AllReadyH.cons rfl (fun K hK=>?_) AllReadyH.nil
      go_simp
      refine hK.out _ _ (KEEP.out _ HP5.out.2.2.1) (fun hHeld=>?_)
      clear hK K
      try simp only[Act.put,List.setIfInBounds_toArray,List.set_cons_zero,List.set_cons_succ]
      refine wpAnyH_done (by kernel_rfl) ?_ _
      refine⟨rfl,?_⟩
      clear e0 e1 hHeld
      gi_wp2_with fail
      exact FIN.out _ HP5.out.2.2.2
   ·have hqe:q=SL:=by omega
    subst hqe
    have b3:decide ((q:Int)<(q:Int))=false:=by simp
    gi_wp2_with fail
    exact⟨HI.out.2.2.1.from _,HI.out.2.1.mono (fun z _ e=>by rcases e with e | e <;> omega),HST.out _ HI.out.1⟩
 case done =>
  rintro D ys W hD rfl ⟨v,h1⟩ hK
  rw[vl_all] at h1
  have k0:=h1.blk.cell (o:=0) rfl
  have H1:=hid h1
  have HK:=hid hK
  clear h1 hK
  go_wp2_with fail
  have hbf:But No w W:=HBW0.out.andThen' H1.out.but (fun i _ e=>by rw[show i=_ from e];omega)
  have ht:=H1.out.turn (grownBy_putObj' _ D (.deferred none)) (fun r e=>by cases e;exact⟨hD,_,HK.out,rfl⟩)
  refine⟨by simp,.inl ⟨_,_,rfl,run_takeDeferred HK.out,?_⟩⟩
  exact⟨_,by simp[results,Tryz.results133,go_sem],v,rfl,hbf.grown (grownBy_putObj' _ D (.deferred none)) (fun k e=>.inr (by cases e;omega)),ht.own,fun k e=>by have:=ht.new k e;omega⟩
 case stop =>
  rintro D c' pre W hD hp h
  exact h.elim
end Go.Proofs.YtikcigjbhohboaaGreat.pln
end
