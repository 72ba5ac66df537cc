/- Part 51 of a proof: TbX. -/
import Derived.Test.YtikcigjbhohboaaGreatM41
import Derived.Test.YtikcigjbhohboaaGreatM43
import Derived.Test.YtikcigjbhohboaaGreatM48
import Derived.Test.YtikcigjbhohboaaGreatM49
import Derived.Test.YtikcigjbhohboaaGreatM50
section
namespace Go.Proofs.YtikcigjbhohboaaGreat.tbl
open Go.Lib (hid)
set_option linter.unusedSimpArgs false
open Go.ChangeShapes Go.WideShapes Go.ChangeAt Go.RowKit Go.Deep val ter pln
def exS : Sys:=⟨2,1,1,0,0,0,1,1, [⟨10,10,6, []⟩,⟨10,10,6, []⟩]⟩
def exL : List (List Pc):=[[⟨0,6,10,1,false⟩], [⟨1,6,10,1,false⟩]]
theorem ex_place : plcV exS=(exL, [6,6],0):=by kernel_rfl
theorem ex_mk : mkV exS exL [6,6]=true:=by kernel_rfl
theorem ex_mk0 : mkV exS exL [0,0]=false:=by kernel_rfl
theorem ex_rk : rkV exS exL=exL:=by kernel_rfl
theorem ex_sys {w:World} {b:Nat} (h:Blk w b #[.int .i64 10,.int .i64 10,.int .i64 6,.slice none 0 0,.int .i64 10,.int .i64 10,.int .i64 6,.slice none 0 0] 97):RSys w (some ⟨b,0,none⟩) 2 2 exS:=by
 have hin:∀ z:Int,0≤z→z≤10→inR z:=fun z h1 h2=>by unfold inR;omega
 refine⟨Nat.le_refl _,⟨rfl,by omega,fun _=>⟨b,0,rfl,h.lt,fun k t ht=>?_⟩,fun t ht=>?_⟩,hin _ (by decide) (by decide),hin _ (by decide) (by decide),hin _ (by decide) (by decide),hin _ (by decide) (by decide),hin _ (by decide) (by decide),hin _ (by decide) (by decide),hin _ (by decide) (by decide),hin _ (by decide) (by decide)⟩
 ·have hk:k=0∨k=1:=by
   have:=(List.getElem?_eq_some_iff.1 ht).1
   have e:exS.ts.length=2:=rfl
   omega
  rcases hk with rfl | rfl
  ·cases ht;exact⟨h.cell rfl,h.cell rfl,h.cell rfl,none,0,h.cell rfl,Nat.le_refl _,rfl,Nat.zero_le _,fun h=>absurd h (by simp),by simp⟩
  ·cases ht;exact⟨h.cell rfl,h.cell rfl,h.cell rfl,none,0,h.cell rfl,Nat.le_refl _,rfl,Nat.zero_le _,fun h=>absurd h (by simp),by simp⟩
 ·have:t=⟨10,10,6, []⟩:=by simpa [exS] using ht
  subst this
  exact⟨hin _ (by decide) (by decide),hin _ (by decide) (by decide),hin _ (by decide) (by decide)⟩
set_option maxRecDepth 100000 in
theorem two_any (w:World):Calls Tryz.prog 25 #[] w fun e w'=>∃ b,e=.returned (sysV exS (some ⟨b,0,none⟩) 2 2)∧But No w w'∧RSys w' (some ⟨b,0,none⟩) 2 2 exS:=by
 have HE:Hid (∀ W:World,RSys (W.alloc (.cells #[.int .i64 10,.int .i64 10,.int .i64 6,.slice none 0 0,.int .i64 10,.int .i64 10,.int .i64 6,.slice none 0 0] 97)) (some ⟨W.heap.size,0,none⟩) 2 2 exS):=hid (fun W=>ex_sys (Blk.new W _ _))
 go_enter Tryz.func25,Tryz.ntmps25
 go_wp2
 refine bodyPost_ret (v:=sysV exS (some ⟨w.heap.size+1+1,0,none⟩) 2 2) (by simp[results,Tryz.results25,go_sem,sysV,exS]) rfl ⟨w.heap.size+1+1,rfl,(((But.refl No w).alloc _).alloc _).alloc _,?_⟩
 have:=HE.out ((w.alloc (.cells #[.int .i64 2,.int .i64 1,.int .i64 1,.int .i64 0,.int .i64 0,.int .i64 0,.int .i64 1,.int .i64 1,.slice (some ⟨w.heap.size+1+1,0,none⟩) 2 2] 24)).alloc (.cells #[.int .i64 10,.int .i64 10,.int .i64 6,.slice none 0 0] 97))
 rw[size_alloc1,size_alloc1] at this
 exact this
theorem ren_of {w W:World} {s:Sys} {n:Nat} {L:List (List Pc)} {zs:List Int} {g:Nat} {v:Value} {vs:List Value} (hL:L.length=n) (hn:n≤1000) (ho:RoP w W v vs (rkV s L)) (hf:Rf W g 40 (n*2) (fun j=>if j % 2=0 then vs.getD (j/2) (.slice none 0 0) else .int .i64 (zs.getD (j/2) 0))) (hs:(∀ m ∈ rkV s L,m.length≤8)∧∀ m ∈ rkV s L,∀ x ∈ m,inR x.co∧inR x.bu∧inR x.de∧inR x.pr) (hz:∀ k,inR (zs.getD k 0)):REn W (some ⟨g,0,none⟩) n (esV s L zs):=by
 refine⟨by unfold esV;rw[List.length_map,List.length_range,hL],by omega,fun _=>⟨g,0,rfl,hf.lt,fun i x hx=>?_⟩,fun x hx=>?_⟩
 ·unfold esV at hx
  rw[List.getElem?_map] at hx
  have hi:i<n:=by
   by_cases hi:i<n
   ·exact hi
   ·rw[List.getElem?_eq_none (by rw[List.length_range,hL];omega)] at hx;cases hx
  obtain⟨l,hl⟩:∃ l,(rkV s L)[i]? = some l:=⟨_,List.getElem?_eq_getElem (by rw[rkV_len,hL];exact hi)⟩
  obtain⟨u,hu⟩:∃ u,vs[i]? = some u:=⟨_,List.getElem?_eq_getElem (by rw[ho.len,rkV_len,hL];exact hi)⟩
  obtain⟨A5,c5,rfl,hc5,hrp⟩:=(ho.own i u l hu hl).1.rd (by have:=hs.1 l (List.mem_of_getElem? hl);omega) (hs.2 l (List.mem_of_getElem? hl))
  have hxe:x=⟨l,zs.getD i 0⟩:=by
   rw[List.getElem?_eq_getElem (by rw[List.length_range,hL];exact hi)] at hx
   simp only[List.getElem_range,Option.map_some,Option.some.injEq] at hx
   rw[←hx,show (rkV s L).getD i []=l by simp[List.getD,hl]]
  subst hxe
  rw[Nat.zero_add,hf.cell (by omega),hf.cell (by omega)]
  refine⟨A5,c5,?_,?_,hc5,hrp⟩
  ·show some (if _ then _ else _)=_;rw[if_pos (by omega),show i*2/2=i by omega];simp[List.getD,hu]
  ·show some (if _ then _ else _)=_;rw[if_neg (by omega),show (i*2+1)/2=i by omega]
 ·unfold esV at hx
  obtain⟨i,_,rfl⟩:=List.mem_map.1 hx
  exact hz i
theorem ov_rd {w:World} {v:Value} {zs:List Int} (h:Ov w v zs) (hm:zs.length≤100000) (hf:∀ k,inR (zs.getD k 0)):∃ A c,v=.slice A zs.length c∧Rd w A zs.length zs:=by
 obtain⟨A,c,e,_⟩:=Ov.slice h
 subst e
 obtain⟨hl,_⟩:=h.rl hm
 exact⟨A,c,rfl,hl.len,hl.max,hl.at_,hf⟩
theorem in6 : ∀ k,inR (([6,6]:List Int).getD k 0):=fun k=>by
 rcases k with _ | _ | k
 ·decide
 ·decide
 ·show inR 0;decide
theorem place_two (A:Option Addr) (n c:Nat) (w:World) (hs:RSys w A n c exS):Calls Tryz.prog 19 #[sysV exS A n c] w fun e w'=>∃ A1 c1 AV cV,e=.returned (.tuple #[.slice A1 2 c1,.slice AV 2 cV,.int .i64 0])∧But No w w'∧RPl w' A1 2 exL∧Rd w' AV 2 [6,6]:=by
 have h:=place_any exS (fun A n c w hs=>order_any pls.stable19 pls.cmp_grow exS (fun _=>by decide) A n c w hs) (check_at exS rfl) A n c w hs
 unfold PlAns at h
 rw[ex_place] at h
 refine h.mono ?_
 rintro e w' ⟨A1,N1,c1,v,rfl,h1,h2,h3⟩
 obtain⟨AV,cV,rfl,h4⟩:=ov_rd h3 (by simp) in6
 obtain rfl:N1=2:=h2.len.symm
 exact⟨A1,c1,AV,cV,rfl,h1,h2,h4⟩
theorem ex_right : tbR ⟨exS,esV exS exL [6,6],ceV exS (rkV exS exL)⟩=true:=by kernel_rfl
theorem in0 : ∀ k,inR (([0,0]:List Int).getD k 0):=fun k=>by
 rcases k with _ | _ | k <;> (show inR 0;decide)
theorem ex_sizes : (∀ m ∈ rkV exS exL,m.length≤8)∧∀ m ∈ rkV exS exL,∀ x ∈ m,inR x.co∧inR x.bu∧inR x.de∧inR x.pr:=by
 rw[ex_rk];unfold exL inR;simp
structure ExT (w:World) (g9 c9 g:Nat) (AZ:Option Addr) (fZ:Nat):Prop where
 sys:RSys w (some ⟨g9,0,none⟩) 2 c9 exS
 en:REn w (some ⟨g,0,none⟩) 2 (esV exS exL [6,6])
 ce:RNs w AZ 2 (ceV exS (rkV exS exL))
 six:w.cell? ⟨g,1,none⟩=some (.int .i64 6)
theorem ExT.no {w w':World} {g9 c9 g:Nat} {AZ:Option Addr} {fZ:Nat} (h:ExT w g9 c9 g AZ fZ) (hb:But No w w'):ExT w' g9 c9 g AZ fZ:=⟨h.sys.no hb,h.en.no hb,h.ce.no hb,cell_keep h.six hb⟩
theorem right_ex {W:World} {g9 c9 g:Nat} {AZ:Option Addr} {fZ:Nat} (h:ExT W g9 c9 g AZ fZ):Calls Tryz.prog 17 #[tbV exS (some ⟨g9,0,none⟩) 2 c9 (some ⟨g,0,none⟩) 2 2 AZ 2 fZ] W fun e w'=>e=.returned (.bool true)∧But No W w':=by
 have:=right_any exS (some ⟨g9,0,none⟩) 2 c9 (some ⟨g,0,none⟩) 2 2 AZ 2 fZ (esV exS exL [6,6]) (ceV exS (rkV exS exL)) W h.sys h.en h.ce (by omega)
 rw[ex_right] at this
 exact this
set_option maxRecDepth 100000 in
theorem make_ex {A A' D:Option Addr} {c N c' z cz:Nat} {w:World} (hs:RSys w A 2 c exS) (hl:RPl w A' N exL) (hz:Rd w D z [6,6]):Calls Tryz.prog 11 #[sysV exS A 2 c,.slice A' N c',.slice D z cz] w fun e w'=>∃ g9 c9 g AZ fZ,e=.returned (.tuple #[tbV exS (some ⟨g9,0,none⟩) 2 c9 (some ⟨g,0,none⟩) 2 2 AZ 2 fZ,.int .i64 0])∧But No w w'∧ExT w' g9 c9 g AZ fZ:=by
 refine(make_any exS A 2 c A' N c' exL D z cz [6,6] w hs hl hz).mono ?_
 rintro e w' (⟨h,_⟩ | ⟨_,g9,c9,g,AZ,q,fZ,rfl,h⟩)
 ·rw[ex_mk] at h;cases h
 ·have hq:q=2:=by have:=h.ce.len;rw[ceVlen] at this;exact this.symm
  subst hq
  obtain⟨v,vs,h1,_,h3,_⟩:=h.rows
  exact⟨g9,c9,g,AZ,fZ,rfl,h.but,h.sys,ren_of rfl (by omega) h1 h3 ex_sizes in6,h.ce,h3.cell (j:=1) (by omega)⟩
theorem make_ex0 {A A' D:Option Addr} {c N c' z cz:Nat} {w:World} (hs:RSys w A 2 c exS) (hl:RPl w A' N exL) (hz:Rd w D z [0,0]):Calls Tryz.prog 11 #[sysV exS A 2 c,.slice A' N c',.slice D z cz] w fun e w'=>e=.returned (.tuple #[tbV sys0 none 0 0 none 0 0 none 0 0,.int .i64 1])∧But No w w':=by
 refine(make_any exS A 2 c A' N c' exL D z cz [0,0] w hs hl hz).mono ?_
 rintro e w' (⟨_,h⟩ | ⟨h,_⟩)
 ·exact h
 ·rw[ex_mk0] at h;cases h
set_option maxRecDepth 100000 in
set_option maxHeartbeats 8000000 in
theorem examples_ok (w:World):Calls Tryz.prog 9 #[] w fun e w'=>e=.returned (.bool true)∧But No w w':=by
 have CT:=hid (two_any w)
 go_enter Tryz.func9,Tryz.ntmps9
 go_upto_region 2 with(go_at_call 25;refine CT.out.mono ?_;rintro e w1 ⟨b,rfl,hb1,hs1⟩;have HB1:=hid hb1;have HS1:=hid hs1;clear hb1 hs1;dsimp only[sysV,exS])
 obtain⟨W2,hW2⟩:∃ W2,w1.alloc (.cells #[.int .i64 2,.int .i64 1,.int .i64 1,.int .i64 0,.int .i64 0,.int .i64 0,.int .i64 1,.int .i64 1,.slice (some ⟨b,0,none⟩) 2 2] 24)=W2:=⟨_,rfl⟩
 obtain⟨SB,hSB⟩:∃ SB,w1.heap.size=SB:=⟨_,rfl⟩
 have HSB:Hid (Blk W2 SB (boxS exS (some ⟨b,0,none⟩) 2 2) 24):=by rw[←hW2,←hSB];exact Blk.new w1 _ _
 have HB2:Hid (But No w W2):=by rw[←hW2];exact HB1.out.alloc _
 have HS2:Hid (RSys W2 (some ⟨b,0,none⟩) 2 2 exS):=by rw[←hW2];exact HS1.out.no ((But.refl No w1).alloc _)
 rw[hW2,hSB]
 clear hW2 hSB
 have CPL:=place_two _ _ _ _ HS2.out
 have bb:W2.cell? ⟨SB,0,none⟩=some (.int .i64 2)∧W2.cell? ⟨SB,1,none⟩=some (.int .i64 1)∧W2.cell? ⟨SB,2,none⟩=some (.int .i64 1)∧W2.cell? ⟨SB,3,none⟩=some (.int .i64 0)∧W2.cell? ⟨SB,4,none⟩=some (.int .i64 0)∧W2.cell? ⟨SB,5,none⟩=some (.int .i64 0)∧W2.cell? ⟨SB,6,none⟩=some (.int .i64 1)∧W2.cell? ⟨SB,7,none⟩=some (.int .i64 1)∧W2.cell? ⟨SB,8,none⟩=some (.slice (some ⟨b,0,none⟩) 2 2):=sys_cells HSB.out
 dsimp only[sysV,exS] at CPL
 have CPH:=hid CPL
 clear CPL
 have KS:Hid (∀ W,But No W2 W→W.cell? ⟨SB,0,none⟩=some (.int .i64 2)∧W.cell? ⟨SB,1,none⟩=some (.int .i64 1)∧W.cell? ⟨SB,2,none⟩=some (.int .i64 1)∧W.cell? ⟨SB,3,none⟩=some (.int .i64 0)∧W.cell? ⟨SB,4,none⟩=some (.int .i64 0)∧W.cell? ⟨SB,5,none⟩=some (.int .i64 0)∧W.cell? ⟨SB,6,none⟩=some (.int .i64 1)∧W.cell? ⟨SB,7,none⟩=some (.int .i64 1)∧W.cell? ⟨SB,8,none⟩=some (.slice (some ⟨b,0,none⟩) 2 2)):=hid (fun W hb=>sys_cells (HSB.out.but hb (fun f=>f)))
 clear bb
 have bb:=KS.out W2 (But.refl _ _)
 go_wp2_with fail
 go_at_call 19
 refine CPH.out.mono ?_
 rintro e w3 ⟨A1,c1,AV,cV,rfl,hb3,hp3,hrd⟩
 have cm:=make_ex (c:=2) (c':=c1) (cz:=cV) (HS2.out.no hb3) hp3 hrd
 dsimp only[sysV,tbV,exS] at cm
 have CM1:=hid cm
 have HB3:=hid hb3
 have HP3:=hid hp3
 clear hb3 hp3 hrd cm bb
 have bb:=KS.out w3 HB3.out
 go_wp2_with fail
 go_at_call 11
 refine CM1.out.mono ?_
 rintro e w4 ⟨g9,c9,g,AZ,fZ,rfl,hb4,hx4⟩
 have HB4:=hid (HB3.out.trans hb4)
 have HX4:=hid hx4
 obtain⟨TB,hTB⟩:∃ TB,w4.heap.size=TB:=⟨_,rfl⟩
 obtain⟨W5,hW5⟩:∃ W5,w4.alloc (.cells #[.int .i64 2,.int .i64 1,.int .i64 1,.int .i64 0,.int .i64 0,.int .i64 0,.int .i64 1,.int .i64 1,.slice (some ⟨g9,0,none⟩) 2 c9,.slice (some ⟨g,0,none⟩) 2 2,.slice AZ 2 fZ] 31)=W5:=⟨_,rfl⟩
 have HX5:Hid (Blk W5 TB #[.int .i64 2,.int .i64 1,.int .i64 1,.int .i64 0,.int .i64 0,.int .i64 0,.int .i64 1,.int .i64 1,.slice (some ⟨g9,0,none⟩) 2 c9,.slice (some ⟨g,0,none⟩) 2 2,.slice AZ 2 fZ] 31):=(by rw[←hW5,←hTB];exact Blk.new w4 _ _)
 have hb5:But No w4 W5:=(by rw[←hW5];exact(But.refl No w4).alloc _)
 have HB5:=hid hb5
 obtain⟨NB,hNB⟩:∃ NB,W5.heap.size=NB:=⟨_,rfl⟩
 obtain⟨W6,hW6⟩:∃ W6,W5.alloc (.cells #[.int .i64 0,.int .i64 0] 3)=W6:=⟨_,rfl⟩
 have HB6:Hid (But No W5 W6):=(by rw[←hW6];exact(But.refl No W5).alloc _)
 have HN6:Hid (Rd W6 (some ⟨NB,0,none⟩) 2 [0,0]):=(by rw[←hW6,←hNB];exact rd_block (zs:=[0,0]) (Blk.new W5 _ _) (by simp) in0)
 have c0:=make_ex0 (c:=2) (c':=c1) (cz:=2) (HS2.out.no ((HB4.out.trans hb5).trans HB6.out)) (HP3.out.no ((hb4.trans hb5).trans HB6.out)) HN6.out
 dsimp only[sysV,tbV,exS,sys0] at c0
 have CM0:=hid c0
 clear hb4 hx4 hb5 c0 bb
 have bb:=KS.out W5 (HB4.out.trans HB5.out)
 have bb2:=KS.out W6 ((HB4.out.trans HB5.out).trans HB6.out)
 go_wp2_with fail
 go_at_call 11
 refine CM0.out.mono ?_
 rintro e w7 ⟨rfl,hb7⟩
 have HB7:=hid hb7
 clear hb7 hW6 hW5
 go_upto_region 5 with fail
 clear bb bb2
 obtain⟨W8,hW8⟩:∃ W8,w7.alloc (.cells #[.int .i64 0,.int .i64 0,.int .i64 0,.int .i64 0,.int .i64 0,.int .i64 0,.int .i64 0,.int .i64 0,.slice none 0 0,.slice none 0 0,.slice none 0 0] 31)=W8:=⟨_,rfl⟩
 have HB8:Hid (But No w4 W8):=(by rw[←hW8];exact(HB5.out.trans (HB6.out.trans HB7.out)).alloc _)
 have cr:=right_ex (HX4.out.no HB8.out)
 dsimp only[tbV,exS] at cr
 have CR:=hid cr
 have hx8:=HX5.out.but (HB6.out.trans (HB7.out.trans (show But No w7 W8 from (by rw[←hW8];exact(But.refl No w7).alloc _)))) (fun f=>f)
 have k0:=hx8.cell (o:=0) rfl
 have k1:=hx8.cell (o:=1) rfl
 have k2:=hx8.cell (o:=2) rfl
 have k3:=hx8.cell (o:=3) rfl
 have k4:=hx8.cell (o:=4) rfl
 have k5:=hx8.cell (o:=5) rfl
 have k6:=hx8.cell (o:=6) rfl
 have k7:=hx8.cell (o:=7) rfl
 have k8:=hx8.cell (o:=8) rfl
 have k9:=hx8.cell (o:=9) rfl
 have k10:=hx8.cell (o:=10) rfl
 have HX8:=hid hx8
 rw[hW8]
 clear cr hx8 hW8
 go_wp2_with fail
 go_at_call 17
 refine CR.out.mono ?_
 rintro e w9 ⟨rfl,hb9⟩
 have HB9:=hid hb9
 have m9:=(HX8.out.but hb9 (fun f=>f)).cell (o:=9) rfl
 have m10:=(HX8.out.but hb9 (fun f=>f)).cell (o:=10) rfl
 have m6:=(HX4.out.no (HB8.out.trans hb9)).six
 clear hb9
 go_wp2
 go_ret
 exact⟨rfl,(HB2.out.trans (HB4.out.trans HB8.out)).trans HB9.out⟩
end Go.Proofs.YtikcigjbhohboaaGreat.tbl
end
