/- Part 16 of a proof: TeC1 TeC2 TeC3 TeC4. -/
import Derived.StillTailTactics
import Derived.WalkMore
import Derived.Test.YtikcigjbhohboaaGreatM01
import Derived.Test.YtikcigjbhohboaaGreatM02
import Derived.Test.YtikcigjbhohboaaGreatM03
import Derived.Test.YtikcigjbhohboaaGreatM05
section
namespace Go.Proofs.YtikcigjbhohboaaGreat.ter
open Go.Lib (hid)
open Go.ChangeShapes Go.WideShapes Go.ChangeAt Go.RowKit Go.Deep
theorem _root_.Go.Proofs.YtikcigjbhohboaaGreat.Rd.at1 {w:World} {A:Option Addr} {n:Nat} {zs:List Int} (h:Rd w A n zs) {k:Nat} (hk:k<n):∃ b off,A=some ⟨b,off,none⟩∧b<w.heap.size∧w.cell? ⟨b,off+k,none⟩=some (.int .i64 (zs.getD k 0)):=by
 obtain⟨b,off,e,hl,hc⟩:=h.at_ (by omega)
 exact⟨b,off,e,hl,hc k hk⟩
theorem cell_alloc {w:World} {b o:Nat} {v:Value} (h:w.cell? ⟨b,o,none⟩=some v) (x:Obj):(w.alloc x).cell? ⟨b,o,none⟩=some v:=cell_keep h ((But.refl No w).alloc x)
set_option maxRecDepth 100000 in
set_option maxHeartbeats 4000000 in
theorem coreOf_any (s:Sys) (A:Option Addr) (n c:Nat) (B:Option Addr) (m d:Nat) (wh:List Int) (i:Nat) (w:World) (hz:Rd w B m wh):Calls Tryz.prog 169 #[sysV s A n c,.slice B m d,.int .i64 i] w fun e w'=>e=.returned (.int .i64 (cr s.co wh i))∧But No w w':=by
 have HL:=hid hz.len
 have hi0:(0:Int)≤(i:Int):=Int.natCast_nonneg i
 by_cases h1:i<m
 ·obtain⟨b,off,rfl,hl,hc⟩:=hz.at1 h1
  clear hz
  have him:(i:Int)<(m:Int):=by omega
  have e1:decide (m≤i)=false:=by simp;omega
  have hc2:=cell_alloc hc (.cells #[.int .i64 s.co,.int .i64 s.po,.int .i64 s.pr,.int .i64 s.re,.int .i64 s.sw,.int .i64 s.fi,.int .i64 s.la,.int .i64 s.rs,.slice A n c] 24)
  have HC:Hid (cr s.co wh i=if 0≤wh.getD i 0∧wh.getD i 0<s.co then wh.getD i 0 else -1):=hid (by unfold cr;simp only[HL.out,h1,true_and])
  clear hc hl
  generalize wh.getD i 0=z at hc2 HC
  by_cases h2:z<0
  ·have e2:decide (z<0)=true:=by simp[h2]
   have HC2:=hid (HC.out.trans (if_neg (by omega)))
   clear HC
   unfold sysV
   go_enter Tryz.func169,Tryz.ntmps169
   go_wp2_with fail
   have hb0:But No w (w.alloc (.cells #[.int .i64 s.co,.int .i64 s.po,.int .i64 s.pr,.int .i64 s.re,.int .i64 s.sw,.int .i64 s.fi,.int .i64 s.la,.int .i64 s.rs,.slice A n c] 24)):=(But.refl No w).alloc _
   have hs0:(w.alloc (.cells #[.int .i64 s.co,.int .i64 s.po,.int .i64 s.pr,.int .i64 s.re,.int .i64 s.sw,.int .i64 s.fi,.int .i64 s.la,.int .i64 s.rs,.slice A n c] 24)).cell? ⟨w.heap.size,0,none⟩=some (.int .i64 s.co):=(Blk.new w _ _).cell rfl
   generalize w.alloc (.cells #[.int .i64 s.co,.int .i64 s.po,.int .i64 s.pr,.int .i64 s.re,.int .i64 s.sw,.int .i64 s.fi,.int .i64 s.la,.int .i64 s.rs,.slice A n c] 24)=W at *
   generalize w.heap.size=b0 at *
   have HB:=hid hb0
   clear hb0
   go_quiet (fail)
   go_wp2
   go_ret
   exact⟨ret1 HC2.out.symm,HB.out.drewN _⟩
  ·have e2:decide (z<0)=false:=by simp;omega
   by_cases h3:s.co≤z
   ·have e3:decide (s.co≤z)=true:=by simp[h3]
    have HC2:=hid (HC.out.trans (if_neg (by omega)))
    clear HC
    unfold sysV
    go_enter Tryz.func169,Tryz.ntmps169
    go_wp2_with fail
    have hb0:But No w (w.alloc (.cells #[.int .i64 s.co,.int .i64 s.po,.int .i64 s.pr,.int .i64 s.re,.int .i64 s.sw,.int .i64 s.fi,.int .i64 s.la,.int .i64 s.rs,.slice A n c] 24)):=(But.refl No w).alloc _
    have hs0:(w.alloc (.cells #[.int .i64 s.co,.int .i64 s.po,.int .i64 s.pr,.int .i64 s.re,.int .i64 s.sw,.int .i64 s.fi,.int .i64 s.la,.int .i64 s.rs,.slice A n c] 24)).cell? ⟨w.heap.size,0,none⟩=some (.int .i64 s.co):=(Blk.new w _ _).cell rfl
    generalize w.alloc (.cells #[.int .i64 s.co,.int .i64 s.po,.int .i64 s.pr,.int .i64 s.re,.int .i64 s.sw,.int .i64 s.fi,.int .i64 s.la,.int .i64 s.rs,.slice A n c] 24)=W at *
    generalize w.heap.size=b0 at *
    have HB:=hid hb0
    clear hb0
    go_quiet (fail)
    go_wp2
    go_ret
    exact⟨ret1 HC2.out.symm,HB.out.drewN _⟩
   ·have e3:decide (s.co≤z)=false:=by simp;omega
    have HC2:=hid (HC.out.trans (if_pos (by omega)))
    clear HC
    unfold sysV
    go_enter Tryz.func169,Tryz.ntmps169
    go_wp2_with fail
    have hb0:But No w (w.alloc (.cells #[.int .i64 s.co,.int .i64 s.po,.int .i64 s.pr,.int .i64 s.re,.int .i64 s.sw,.int .i64 s.fi,.int .i64 s.la,.int .i64 s.rs,.slice A n c] 24)):=(But.refl No w).alloc _
    have hs0:(w.alloc (.cells #[.int .i64 s.co,.int .i64 s.po,.int .i64 s.pr,.int .i64 s.re,.int .i64 s.sw,.int .i64 s.fi,.int .i64 s.la,.int .i64 s.rs,.slice A n c] 24)).cell? ⟨w.heap.size,0,none⟩=some (.int .i64 s.co):=(Blk.new w _ _).cell rfl
    generalize w.alloc (.cells #[.int .i64 s.co,.int .i64 s.po,.int .i64 s.pr,.int .i64 s.re,.int .i64 s.sw,.int .i64 s.fi,.int .i64 s.la,.int .i64 s.rs,.slice A n c] 24)=W at *
    generalize w.heap.size=b0 at *
    have HB:=hid hb0
    clear hb0
    go_quiet (fail)
    go_wp2
    go_ret
    exact⟨ret1 HC2.out.symm,HB.out.drewN _⟩
 ·clear hz
  have e1:decide (m≤i)=true:=by simp;omega
  have HC2:Hid (cr s.co wh i = -1):=hid (by unfold cr;rw[if_neg (by rw[HL.out];exact fun h=>h1 h.1)])
  unfold sysV
  go_enter Tryz.func169,Tryz.ntmps169
  go_wp2_with fail
  have hb0:But No w (w.alloc (.cells #[.int .i64 s.co,.int .i64 s.po,.int .i64 s.pr,.int .i64 s.re,.int .i64 s.sw,.int .i64 s.fi,.int .i64 s.la,.int .i64 s.rs,.slice A n c] 24)):=(But.refl No w).alloc _
  have hs0:(w.alloc (.cells #[.int .i64 s.co,.int .i64 s.po,.int .i64 s.pr,.int .i64 s.re,.int .i64 s.sw,.int .i64 s.fi,.int .i64 s.la,.int .i64 s.rs,.slice A n c] 24)).cell? ⟨w.heap.size,0,none⟩=some (.int .i64 s.co):=(Blk.new w _ _).cell rfl
  generalize w.alloc (.cells #[.int .i64 s.co,.int .i64 s.po,.int .i64 s.pr,.int .i64 s.re,.int .i64 s.sw,.int .i64 s.fi,.int .i64 s.la,.int .i64 s.rs,.slice A n c] 24)=W at *
  generalize w.heap.size=b0 at *
  have HB:=hid hb0
  clear hb0
  go_quiet (fail)
  go_wp2
  go_ret
  exact⟨ret1 HC2.out.symm,HB.out.drewN _⟩
end Go.Proofs.YtikcigjbhohboaaGreat.ter
end
section
namespace Go.Proofs.YtikcigjbhohboaaGreat.ter
open Go.Lib (hid)
open Go.ChangeShapes Go.WideShapes Go.ChangeAt Go.RowKit Go.Deep ky2
structure LIs (D:DataW Unit) (L:List Sec):Prop where
 map:Maps.IsMap D
 fit:∀ x ∈ L,inR x.1∧inR x.2.1
 has:∀ c r,inR c→inR r→Maps.has D (kp c r)=decide (0<mx L c r)
 at_:∀ c r,inR c→inR r→∀ z,D.atKey (kp c r) z=if 0<mx L c r then vl (mx L c r) else z
theorem LIs.nil : LIs (.map []) []:=⟨⟨[],rfl⟩,by simp,fun _ _ _ _=>rfl,fun _ _ _ _ _=>rfl⟩
theorem LIs.put {D:DataW Unit} {L:List Sec} (h:LIs D L) {c r n:Int} (hc:inR c) (hr:inR r) (hn:1≤n):LIs (D.put (kp c r) (vl (max (mx L c r) n))) (L ++ [(c,r,n)]):=by
 have hp:∀ a b,mx (L ++ [(c,r,n)]) a b=if c=a∧r=b then max (mx L a b) n else mx L a b:=fun a b=>mx_snoc L (c,r,n) a b
 refine⟨?_,?_,fun a b ha hb=>?_,fun a b ha hb z=>?_⟩
 ·obtain⟨es,rfl⟩:=h.map
  exact⟨_,rfl⟩
 ·intro x hx
  rcases List.mem_append.1 hx with hx | hx
  ·exact h.fit x hx
  ·have:x=(c,r,n):=by simpa using hx
   subst this
   exact⟨hc,hr⟩
 ·rw[hp]
  by_cases e:c=a∧r=b
  ·obtain⟨rfl,rfl⟩:=e
   have hx:0<max (mx L c r) n:=by omega
   simp only[and_self,if_true]
   rw[Maps.has_put_same h.map (kp_key c r)]
   simp[hx]
  ·rw[if_neg e,Maps.has_put_other (kp_ne ha hb hc hr (by omega)),h.has a b ha hb]
 ·rw[hp]
  by_cases e:c=a∧r=b
  ·obtain⟨rfl,rfl⟩:=e
   have hx:0<max (mx L c r) n:=by omega
   simp only[and_self,if_true]
   rw[Maps.atKey_put_same h.map (kp_key c r),if_pos hx]
  ·rw[if_neg e,Maps.atKey_put_other (kp_ne ha hb hc hr (by omega)),h.at_ a b ha hb]
theorem LIs.zero {D:DataW Unit} {L:List Sec} (h:LIs D L) {c r:Int} (hc:inR c) (hr:inR r):D.atKey (kp c r) (vl 0)=vl (mx L c r):=by
 rw[h.at_ c r hc hr]
 have:=mx_pos L c r
 by_cases e:0<mx L c r
 ·rw[if_pos e]
 ·rw[if_neg e];have:mx L c r=0:=by omega
  rw[this]
theorem vl_inj {a b:Int} (h:vl a=vl b):a=b:=by
 unfold vl at h
 cases h;rfl
theorem sm_in {L:List Sec} (hb:∀ c r,mx L c r≤1099511627776) (own r:Int) (n:Nat) (h:n≤8):0≤sm L own r n∧sm L own r n≤8796093022216:=by
 refine⟨sm_pos L own r n,?_⟩
 have:∀ k:Nat,sm L own r k≤(k:Int)*1099511627777:=fun k=>by
  induction k with
  | zero=>simp[sm]
  | succ k ih =>
   rw[sm]
   have:=hb k r
   push_cast
   split <;> omega
 have:=this n
 omega
set_option maxRecDepth 100000 in
set_option maxHeartbeats 2000000 in
theorem wait_any (L:List Sec) (D:DataW Unit) (mb N:Nat) (co own res:Int) (w:World) (hO:OM w mb N D) (hI:LIs D L) (hb:∀ c r,mx L c r≤1099511627776) (h0:0≤co) (h8:co≤8) (hr:inR res) :
  Calls Tryz.prog 170 #[.map (some mb),.int .i64 co,.int .i64 own,.int .i64 res] w fun e w'=>e=.returned (.int .i64 (sm L own res co.toNat))∧w'=w:=by
 obtain⟨n,rfl⟩:∃ n:Nat,co=(n:Int):=⟨co.toNat,by omega⟩
 have h8':n≤8:=by omega
 clear h0 h8
 rw[Int.toNat_natCast]
 have OWN:=hid hO
 have HI:=hid hI
 have HBD:=hid hb
 have HR:=hid hr
 clear hO hI hb hr
 go_enter Tryz.func170,Tryz.ntmps170
 go_wp2_with fail
 go_loopw [9,14] (fun a t wr=>∃ k:Nat,a=.int .i64 (sm L own res k)∧t=.int .i64 k∧k≤n∧Hid (wr=w)) (fun _ t _=>n-(intOf t).toNat)
 case atStart=>exact⟨0,rfl,rfl,by omega,rfl⟩
 case round =>
  obtain⟨k,rfl,rfl,hk,hw⟩:=hrel
  obtain rfl:=hw.out
  clear hw
  have KEY:=hid (keyOf_two (a:=(k:Int)) (b:=res) (wf_of (inR_nat (by omega))) (wf_of HR.out))
  have HHAS:=HI.out.has k res (inR_nat (by omega)) HR.out
  have HAT:=HI.out.at_ k res (inR_nat (by omega)) HR.out
  have hs:=sm_in HBD.out own res k (by omega)
  have hm:=HBD.out k res
  have hm0:=mx_pos L k res
  have HSM:=hid (show sm L own res (k+1)=sm L own res k+(if 0<mx L k res∧(k:Int)≠own then mx L k res+1 else 0) from rfl)
  obtain⟨S0,hS0⟩:∃ S0,sm L own res k=S0:=⟨_,rfl⟩
  have HS0:=hid hS0
  rw[hS0] at HSM hs ⊢
  clear hS0
  generalize mx L (k:Int) res=M at *
  by_cases hlt:k<n
  ·have kn':(k:Int)<(n:Int):=by omega
   by_cases hM:0<M
   ·have hH:Hid (Maps.has D (kp k res)=true):=hid (by rw[HHAS];simp[hM])
    have AT:Hid (∀ z,D.atKey (kp k res) z=vl M):=hid (fun z=>by rw[HAT,if_pos hM])
    clear HHAS HAT
    by_cases ho:(k:Int)=own
    ·have hE:Hid (sm L own res (k+1)=S0):=hid (by rw[HSM.out,if_neg (fun h=>h.2 ho)];omega)
     clear HSM
     obtain rfl:own=(k:Int):=ho.symm
     go_wp2_with (at_lookup;refine wpList_lookup_own_ok_int (H:=Unit) _ rfl _ _ 248 rfl 267 3 .i64 keyed Tryz.underlying248 Tryz.underlying3 (zero3 _) mb N D rfl OWN.out _ (kp k res) rfl KEY.out ?_;intro cc hcc hwc;obtain rfl:=at_eq hcc AT.out;clear hcc hwc;rw[hH.out])
     go_roundw
     case rel=>exact⟨k+1,by rw[hE.out],by go_num,by omega,by first | exact rfl | exact trivial⟩
     case measure=>simp[intOf];omega
    ·have hE:Hid (sm L own res (k+1)=S0+(M+1)):=hid (by rw[HSM.out,if_pos ⟨hM,ho⟩])
     clear HSM
     have ho2:decide ((k:Int)=own)=false:=by simp[ho]
     go_wp2_with (at_lookup;refine wpList_lookup_own_ok_int (H:=Unit) _ rfl _ _ 248 rfl 267 3 .i64 keyed Tryz.underlying248 Tryz.underlying3 (zero3 _) mb N D rfl OWN.out _ (kp k res) rfl KEY.out ?_;intro cc hcc hwc;obtain rfl:=at_eq hcc AT.out;clear hcc hwc;rw[hH.out])
     go_roundw
     case rel=>exact⟨k+1,by rw[hE.out],by go_num,by omega,by first | exact rfl | exact trivial⟩
     case measure=>simp[intOf];omega
   ·have hH:Hid (Maps.has D (kp k res)=false):=hid (by rw[HHAS];simp[hM])
    have hE:Hid (sm L own res (k+1)=S0):=hid (by have e:=HSM.out;rw[if_neg (fun h=>hM h.1)] at e;omega)
    clear HHAS HAT HSM
    go_wp2_with (at_lookup;refine wpList_lookup_own_ok_int (H:=Unit) _ rfl _ _ 248 rfl 267 3 .i64 keyed Tryz.underlying248 Tryz.underlying3 (zero3 _) mb N D rfl OWN.out _ (kp k res) rfl KEY.out ?_;intro cc hcc hwc;clear hcc hwc;rw[hH.out])
    go_roundw
    case rel=>exact⟨k+1,by rw[hE.out],by go_num,by omega,by first | exact rfl | exact trivial⟩
    case measure=>simp[intOf];omega
  ·have hE:Hid (k=n):=hid (by omega)
   have b3:decide ((k:Int)<(n:Int))=false:=by simp;omega
   clear HHAS HAT HSM
   go_wp2
   go_ret
   exact⟨ret1 (by rw[←HS0.out,hE.out]),rfl⟩
end Go.Proofs.YtikcigjbhohboaaGreat.ter
end
section
namespace Go.Proofs.YtikcigjbhohboaaGreat.ter
open Go.Lib (hid)
open Go.ChangeShapes Go.WideShapes Go.ChangeAt Go.RowKit Go.Deep ky2 val
theorem fl_snoc {co:Int} {wh:List Int} {ts:List Tsk} {i:Nat} {t:Tsk} (ht:ts[i]? = some t):fl co wh ts (i+1)=fl co wh ts i ++ enS (cr co wh i) t.secs:=by rw[fl,secsOf_some ht]
theorem fl_none {co:Int} {wh:List Int} {ts:List Tsk} {i:Nat} (h:cr co wh i = -1):fl co wh ts (i+1)=fl co wh ts i:=by rw[fl];unfold enS;rw[if_pos h];simp
theorem enS_take {c:Int} (hc:c ≠ -1) {l:List Sec} {j:Nat} {x:Sec} (hx:l[j]? = some x):enS c (l.take (j+1))=enS c (l.take j) ++ [(c,x.2.1,x.2.2)]:=by
 unfold enS
 rw[if_neg hc,if_neg hc,List.take_add_one,hx]
 simp
structure Lg (w wr:World) (b1 mb:Nat) (s:Sys) (A:Option Addr) (n c:Nat) (L:List Sec) (q:Nat):Prop where
 but:But No w wr
 bs:Blk wr b1 (boxS s A n c) 24
 om:∃ D,OM wr mb q D∧LIs D L
 new:w.heap.size≤mb
 ne:b1≠mb
theorem OM.no {w w':World} {m N:Nat} {D:DataW Unit} (h:OM w m N D) (hb:But No w w'):OM w' m N D:=h.but hb (fun f=>f)
theorem OM.more {w:World} {m N N':Nat} {D:DataW Unit} (h:OM w m N D) (hn:N≤N'):OM w m N' D:=by
 obtain⟨es,clock,h1,h2,h3,h4⟩:=h
 exact⟨es,clock,h1,h2,Nat.le_trans h3 hn,h4⟩
theorem part_le {s:Sys} (hr:right s=true) (wh:List Int) {k j:Nat} {t:Tsk} (ht:s.ts[k]? = some t) (cc c r:Int):0≤mx (fl s.co wh s.ts k ++ enS cc (t.secs.take j)) c r∧mx (fl s.co wh s.ts k ++ enS cc (t.secs.take j)) c r≤1099511627776:=by
 refine⟨mx_pos _ _ _,mx_le (by omega) (fun x hx=>?_) c r⟩
 rcases List.mem_append.1 hx with hx | hx
 ·obtain⟨u,hu,y,hy,_,e⟩:=fl_sec hx
  have:=right_sec hr hu hy
  omega
 ·obtain⟨_,_,y,hy,_,e⟩:=enS_mem.1 hx
  have:=right_sec hr (List.mem_of_getElem? ht) (List.mem_of_mem_take hy)
  omega
theorem _root_.Go.Proofs.YtikcigjbhohboaaGreat.RSec.but {w w':World} {A:Option Addr} {n:Nat} {l:List Sec} {S:Nat→Prop} (h:RSec w A n l) (hb:But S w w') (hs:0<n→∀ b off,A=some ⟨b,off,none⟩→¬S b):RSec w' A n l :=
 ⟨h.len,h.max,fun hn=>by
  obtain⟨b,off,e,hl,hc⟩:=h.at_ hn
  have hs':=hs hn b off e
  exact⟨b,off,e,Nat.lt_of_lt_of_le hl hb.size,fun k x hx=>by rw[hb.cell hl hs',hb.cell hl hs',hb.cell hl hs'];exact hc k x hx⟩,h.fit⟩
variable {w wr w2:World} {b1 mb n c q q':Nat} {s:Sys} {A:Option Addr} {L:List Sec}
theorem Lg.step (h:Lg w wr b1 mb s A n c L q) (hb:But No wr w2):Lg w w2 b1 mb s A n c L q:=by
 obtain⟨D,h1,h2⟩:=h.om
 exact⟨h.but.trans hb,h.bs.but hb (fun f=>f),⟨D,OM.no h1 hb,h2⟩,h.new,h.ne⟩
theorem Lg.more (h:Lg w wr b1 mb s A n c L q) (hq:q≤q'):Lg w wr b1 mb s A n c L q':=by
 obtain⟨D,h1,h2⟩:=h.om
 exact⟨h.but,h.bs,⟨D,OM.more h1 hq,h2⟩,h.new,h.ne⟩
theorem Lg.put {D':DataW Unit} {L':List Sec} (h:Lg w wr b1 mb s A n c L q) (hb:But No wr w2) {w3:World} (ho:OM w3 mb q' D') (ht:w2.mapTurned w3 mb) (hl:LIs D' L'):Lg w w3 b1 mb s A n c L' q':=by
 refine⟨?_,?_,⟨D',ho,hl⟩,h.new,h.ne⟩
 ·exact(h.but.trans hb).grown ht.grown (fun k e=>by cases e;exact .inr h.new)
 ·have hs:=h.bs.but hb (fun f=>f)
  have:But (Just mb) w2 w3:=(But.refl _ w2).turnedK ht rfl
  exact hs.but this h.ne
set_option maxRecDepth 100000 in
set_option maxHeartbeats 4000000 in
theorem longestOf_any (s:Sys) (A:Option Addr) (n c:Nat) (B:Option Addr) (m d:Nat) (wh:List Int) (w:World) (h:RSys w A n c s) (hz:Rd w B m wh) (hr:right s=true) :
  Calls Tryz.prog 168 #[sysV s A n c,.slice B m d] w fun e w'=>∃ mb,e=.returned (.map (some mb))∧But No w w'∧w.heap.size≤mb∧∃ D,OM w' mb 96 D∧LIs D (F s wh):=by
 have HR:=hid h.ts
 have HN:=hid h.ts.len
 have HZ:=hid hz
 have HRT:=hid hr
 have HLN:=hid (right_len hr)
 have hn24:=HLN.out.2.2.2.1
 rw[HN.out] at hn24
 have hmm:=@run_makeMap Tryz.prog
 have CC:Hid (∀ (i:Nat) W,But No w W→Calls Tryz.prog 169 #[sysV s A n c,.slice B m d,.int .i64 i] W fun e w'=>e=.returned (.int .i64 (cr s.co wh i))∧But No W w'):=fun i W hb=>coreOf_any s A n c B m d wh i W (HZ.out.no hb)
 clear h hz hr
 unfold sysV at CC ⊢
 go_enter Tryz.func168,Tryz.ntmps168
 go_wp2_with fail
 have HK0:Hid (Lg w ((w.alloc (.cells (boxS s A n c) 24)).alloc (.map #[] 0)) w.heap.size (w.heap.size+1) s A n c (fl s.co wh s.ts 0) (4*0)):=by
  refine hid ⟨((But.refl No w).alloc _).alloc _,(Blk.new w _ _).alloc _,⟨.map [],?_,LIs.nil⟩,by omega,by omega⟩
  have:=World.ownsMap_made (w.alloc (.cells (boxS s A n c) 24)) Tryz.prog 267 (plainElem (H:=Unit) Tryz.prog 3)
  rwa [size_alloc1] at this
 unfold boxS at HK0
 generalize (w.alloc (.cells #[.int .i64 s.co,.int .i64 s.po,.int .i64 s.pr,.int .i64 s.re,.int .i64 s.sw,.int .i64 s.fi,.int .i64 s.la,.int .i64 s.rs,.slice A n c] 24)).alloc (.map #[] 0)=w0 at HK0 ⊢
 generalize w.heap.size+1=mb at HK0 ⊢
 generalize w.heap.size=b1 at HK0 ⊢
 clear hmm
 go_loopw [16] (fun i wr=>∃ k:Nat,i=.int .i64 (k:Int)∧k≤n∧Hid (Lg w wr b1 mb s A n c (fl s.co wh s.ts k) (4*k))) (fun i _=>n-(intOf i).toNat)
 case atStart=>exact⟨0,rfl,by omega,HK0⟩
 case round =>
  obtain⟨k,rfl,hk,HK1⟩:=hrel
  clear HK0
  by_cases hlt:k<n
  ·obtain⟨t,ht⟩:∃ t,s.ts[k]? = some t:=⟨_,List.getElem?_eq_getElem (by rw[HN.out];exact hlt)⟩
   obtain⟨b,off,A',c',rfl,k0,k1,k2,k3,hcc,hS0⟩:=HR.out.at1 ht
   have c0:=cell_keep k0 HK1.out.but
   have c1:=cell_keep k1 HK1.out.but
   have c2:=cell_keep k2 HK1.out.but
   have c3:=cell_keep k3 HK1.out.but
   have hS:=hS0.no HK1.out.but
   have HNA:Hid (0<t.secs.length→∀ bb oo,A'=some ⟨bb,oo,none⟩→bb≠mb):=hid (fun h0 bb oo e=>by
    obtain⟨b9,o9,e9,hl9,_⟩:=hS0.at_ h0
    rw[e] at e9
    cases e9
    have:=HK1.out.new
    omega)
   clear k0 k1 k2 k3 hS0
   have hts4:=HLN.out.2.2.2.2 t (List.mem_of_getElem? ht)
   have HTK:=hid ht
   have HTF:=hid (HR.out.fit t (List.mem_of_getElem? ht))
   have HS:=hid hS
   obtain⟨m',hm4⟩:∃ m',t.secs.length=m':=⟨_,rfl⟩
   have HM:=hid hm4
   rw[hm4] at c3 hcc HS hts4 HNA
   have CK:Hid (∀ W,But No wr W→Calls Tryz.prog 169 #[sysV s (some ⟨b,off,none⟩) n c,.slice B m d,.int .i64 k] W fun e w'=>e=.returned (.int .i64 (cr s.co wh k))∧But No W w'):=fun W hb=>CC.out k W (HK1.out.but.trans hb)
   unfold sysV at CK
   have HB8:=HK1.out.bs
   obtain⟨d0,d1,d2,d3,d4,d5,d6,d7,d8⟩:=sys_cells (HB8.alloc (.cells #[.int .i64 t.p,.int .i64 t.d,.int .i64 t.w,.slice A' m' c'] 97))
   clear hS ht hm4 HB8
   rcases cr_cases s.co wh k with⟨hcr,_⟩ | ⟨hkm,hcr0,hcr1,hcr2⟩
   ·have HFL:=hid (fl_none (ts:=s.ts) hcr)
    rw[hcr] at CK
    clear hcr
    go_wp2_with (go_at_call 169;(with_reducible refine(CK.out _ ((But.refl No wr).alloc _)).mono ?_);rintro e w2 ⟨rfl,hbt⟩;have HK2:=hid (HK1.out.step (((But.refl No wr).alloc _).trans hbt));clear hbt)
    go_roundw
    case rel=>exact⟨k+1,by go_num,by omega,by rw[HFL.out];exact HK2.out.more (by omega)⟩
    case measure=>simp[intOf];omega
   ·have HC:=hid hcr0
    obtain⟨cc,hcc0⟩:∃ cc,cr s.co wh k=cc:=⟨_,rfl⟩
    have HCC:=hid hcc0
    rw[hcc0] at CK hcr1 hcr2
    have hcn:decide (cc = -1)=false:=by simp;omega
    have hcin:inR cc:=by have:=HLN.out.1;unfold inR;omega
    clear hcc0 hcr0
    go_wp2_with (go_at_call 169;(with_reducible refine(CK.out _ ((But.refl No wr).alloc _)).mono ?_);rintro e w2 ⟨rfl,hbt⟩;have HK2:=hid (HK1.out.step (((But.refl No wr).alloc _).trans hbt));have hxt:=(Blk.new wr #[.int .i64 t.p,.int .i64 t.d,.int .i64 t.w,.slice A' m' c'] 97).but hbt (fun f=>f);have HXT:=hid hxt;have HS2:=hid (HS.out.no (((But.refl No wr).alloc _).trans hbt));have t3:w2.cell? ⟨wr.heap.size,3,none⟩=some (.slice A' m' c'):=hxt.cell (o:=3) rfl;clear hbt hxt)
    have HBT:Hid (wr.heap.size≠mb):=hid (by obtain⟨D9,h9,_⟩:=HK1.out.om;have:=World.ownsMap.lt h9;omega)
    generalize hbt:wr.heap.size=bt at HXT t3 HBT ⊢
    clear hbt c0 c1 c2 c3 HK1 HS CK d0 d1 d2 d3 d4 d5 d6 d7 d8
    rw[show (cc == -1)=false from by simp;omega]
    go_loopw [30] (fun i wr=>∃ j:Nat,i=.int .i64 (j:Int)∧j≤m'∧Hid (Lg w wr b1 mb s (some ⟨b,off,none⟩) n c (fl s.co wh s.ts k ++ enS cc (t.secs.take j)) (4*k+j))∧Hid (Blk wr bt (boxT t A' m' c') 97)∧Hid (RSec wr A' m' t.secs)∧Hid (bt≠mb∧(0<m'→∀ bb oo,A'=some ⟨bb,oo,none⟩→bb≠mb))) (fun i _=>m'-(intOf i).toNat)
    case atStart=>exact⟨0,rfl,by omega,by rw[List.take_zero];unfold enS;simp only[List.map_nil,ite_self,List.append_nil];exact HK2.out,HXT,HS2,HBT.out,HNA.out⟩
    case round =>
     obtain⟨j,rfl,hj,HKQ,HXQ,HSQ,HNE⟩:=hrel
     clear HK2 HXT HS2 t3
     by_cases hjm:j<m'
     ·obtain⟨x,hx⟩:∃ x,t.secs[j]? = some x:=⟨_,List.getElem?_eq_getElem (by rw[HM.out];exact hjm)⟩
      obtain⟨bb,oo,rfl,e1,e2,e3⟩:=HSQ.out.at1 hx
      have hxf:=HSQ.out.fit x (List.mem_of_getElem? hx)
      have hxl:=right_sec HRT.out (List.mem_of_getElem? HTK.out) (List.mem_of_getElem? hx)
      have HX:=hid hx
      have HES:=hid (enS_take (c:=cc) (by omega) hx)
      clear hx
      obtain⟨x0,x1,x2⟩:=x
      simp only at e1 e2 e3 hxf hxl
      obtain⟨_,⟨hx1,_⟩,⟨hx2,hx3⟩⟩:=And.intro trivial hxl
      have KEY:=hid (keyOf_two (a:=cc) (b:=x1) (wf_of hcin) (wf_of hxf.2.1))
      go_wp2_with fail
      obtain⟨D,hO,hI⟩:=HKQ.out.om
      have hbw:But No wr ((wr.alloc (.cells #[.int .i64 x0,.int .i64 x1,.int .i64 x2] 120)).alloc (.cells #[.int .i64 cc,.int .i64 x1] 267)):=((But.refl No wr).alloc _).alloc _
      have hO2:=OM.no hO hbw
      have p0:=(blk2 wr (.cells #[.int .i64 x0,.int .i64 x1,.int .i64 x2] 120) #[.int .i64 cc,.int .i64 x1] 267).cell (o:=0) rfl
      have p1:=(blk2 wr (.cells #[.int .i64 x0,.int .i64 x1,.int .i64 x2] 120) #[.int .i64 cc,.int .i64 x1] 267).cell (o:=1) rfl
      have p2:=((Blk.new wr #[.int .i64 x0,.int .i64 x1,.int .i64 x2] 120).alloc (.cells #[.int .i64 cc,.int .i64 x1] 267)).cell (o:=2) rfl
      obtain⟨M,hM⟩:∃ M,mx (fl s.co wh s.ts k ++ enS cc (t.secs.take j)) cc x1=M:=⟨_,rfl⟩
      have hx1f:=hxf.2.1
      generalize (wr.alloc (.cells #[.int .i64 x0,.int .i64 x1,.int .i64 x2] 120)).alloc (.cells #[.int .i64 cc,.int .i64 x1] 267)=W at *
      generalize wr.heap.size=bx at *
      have lk:(Instr.lookup 248 (.map (some mb)) (.agg #[.int .i64 cc,.int .i64 x1]) false).run Tryz.prog W.drew=.ok (.int .i64 M) W.drew:=by
       have hO3:OM W.drew mb (4*k+j) D:=hO2
       obtain⟨c9,hrun,hat,_⟩:=hO3.lookup_int keyed Tryz.underlying248 Tryz.underlying3 (zero3 _) KEY.out
       have e:=hI.zero hcin hx1f
       rw[hM] at e
       have:c9=M:=vl_inj (hat.symm.trans e)
       rw[←this];exact hrun
      have HO2:=hid hO2
      have HBW:=hid hbw
      have HI:=hid hI
      have HXF:=hid hxf
      have HMM:=hid hM
      have mxb:0≤M∧M≤1099511627776:=by rw[←HMM.out];exact part_le HRT.out wh HTK.out cc cc x1
      clear hO hO2 hbw hI hxf hx1f hM
      go_still_tail 8,(by kernel_rfl)
      obtain⟨V,hV⟩:∃ V,(if M<x2 then x2 else M)=V:=⟨_,rfl⟩
      have HVM:Hid (V=max M x2):=hid (by rw[←hV];split <;> omega)
      have hVr:inR V:=by have:=HXF.out.2.2;have:=mxb;rw[HVM.out];unfold inR at *;omega
      rw[hV]
      clear hV
      go_wp2_with (at_mapUpdate;refine wpList_mapUpdate_in (H:=Unit) _ rfl _ _ _ 248 rfl 267 3 keyed Tryz.underlying248 (plainElem Tryz.prog 3) mb (4*k+j) D rfl (show OM W.drew mb (4*k+j) D from HO2.out) (by unfold maxLen;omega) _ _ (kp cc x1) rfl rfl KEY.out (vl V) [] (plainElem_int Tryz.underlying3 (wf_of hVr)) ?_;intro w3 hown3 ht3;have HO3:=hid hown3;have HT3:=hid ht3;clear hown3 ht3)
      have HK3:=hid (HKQ.out.put (w2:=W.drew) (HBW.out.drewN 1) HO3.out HT3.out (by rw[HVM.out,←HMM.out];exact HI.out.put hcin HXF.out.2.1 hx2))
      have hb3:But (Just mb) W w3:=((But.refl (Just mb) W).drewN 1).turnedK HT3.out rfl
      have HX3:=hid ((HXQ.out.but HBW.out (fun f=>f)).but hb3 HNE.out.1)
      have HS3:Hid (RSec w3 (some ⟨bb,oo,none⟩) m' t.secs):=hid ((HSQ.out.no HBW.out).but hb3 HNE.out.2)
      clear hb3
      go_roundw
      case rel=>exact⟨j+1,by go_num,by omega,by rw[HES.out,←List.append_assoc];exact HK3.out,HX3.out,HS3.out,HNE⟩
      case measure=>simp[intOf];omega
     ·have hE:Hid (j=m'):=hid (by omega)
      have b3:decide ((j:Int)<(m':Int))=false:=by simp;omega
      go_wp2
      go_roundw
      case rel=>exact⟨k+1,by go_num,by omega,by
       have h1:=HKQ.out
       rw[hE.out,←HM.out,List.take_length] at h1
       rw[fl_snoc HTK.out,HCC.out]
       exact h1.more (by rw[HM.out];omega)⟩
      case measure=>simp[intOf];omega
  ·have HE:Hid (k=n):=hid (by omega)
   have b3:decide ((k:Int)<(n:Int))=false:=by simp;omega
   go_wp2
   go_ret
   obtain⟨D,h1,h2⟩:=HK1.out.om
   refine⟨mb,rfl,HK1.out.but,HK1.out.new,D,OM.more h1 (by omega),?_⟩
   unfold F
   rw[HN.out,←HE.out]
   exact h2
end Go.Proofs.YtikcigjbhohboaaGreat.ter
end
section
namespace Go.Proofs.YtikcigjbhohboaaGreat.ter
open Go.Lib (hid)
open Go.ChangeShapes Go.WideShapes Go.ChangeAt Go.RowKit Go.Deep ky2 val
theorem tsk_cases (s:Sys) (task:Int):(∃ (k:Nat) (t:Tsk),task=(k:Int)∧s.ts[k]? = some t∧right s=true∧tsk? s task=some t)∨(tsk? s task=none∧(task<0∨(s.ts.length:Int)≤task∨right s=false)):=by
 unfold tsk?
 by_cases h:right s=true∧0≤task
 ·rw[if_pos h]
  by_cases hl:task.toNat<s.ts.length
  ·exact .inl ⟨task.toNat,s.ts[task.toNat],by omega,List.getElem?_eq_getElem hl,h.1,List.getElem?_eq_getElem hl⟩
  ·exact .inr ⟨List.getElem?_eq_none (by omega),by omega⟩
 ·rw[if_neg h]
  refine .inr ⟨rfl,?_⟩
  cases hr:right s with
  | true=>rw[hr] at h;have:¬0≤task:=fun h'=>h ⟨rfl,h'⟩;omega
  | false=>simp
theorem sec_cases (s:Sys) (task sect:Int):(∃ (k:Nat) (t:Tsk) (j:Nat) (x:Sec),task=(k:Int)∧s.ts[k]? = some t∧right s=true∧tsk? s task=some t∧sect=(j:Int)∧t.secs[j]? = some x∧sec? s task sect=some x) ∨
  (sec? s task sect=none∧tsk? s task=none)∨(sec? s task sect=none∧∃ (k:Nat) (t:Tsk),task=(k:Int)∧s.ts[k]? = some t∧right s=true∧tsk? s task=some t∧(sect<0∨(t.secs.length:Int)≤sect)):=by
 unfold sec?
 rcases tsk_cases s task with⟨k,t,h1,h2,h3,h4⟩ | ⟨h4,_⟩
 ·rw[h4]
  simp only[Option.bind_some]
  by_cases h:0≤sect
  ·rw[if_pos h]
   by_cases hl:sect.toNat<t.secs.length
   ·exact .inl ⟨k,t,sect.toNat,t.secs[sect.toNat],h1,h2,h3,rfl,by omega,List.getElem?_eq_getElem hl,List.getElem?_eq_getElem hl⟩
   ·exact .inr (.inr ⟨List.getElem?_eq_none (by omega),k,t,h1,h2,h3,rfl,by omega⟩)
  ·rw[if_neg h]
   exact .inr (.inr ⟨rfl,k,t,h1,h2,h3,rfl,by omega⟩)
 ·rw[h4]
  exact .inr (.inl ⟨rfl,rfl⟩)
def findV (o:Option Sec):Value:=match o with | some x=>.tuple #[secV x,.bool true] | none=>.tuple #[secV (0,0,0),.bool false]
set_option maxRecDepth 100000 in
set_option maxHeartbeats 2000000 in
theorem hasTask_any (s:Sys) (A:Option Addr) (n c:Nat) (task:Int) (w:World) (h:RSys w A n c s):Calls Tryz.prog 167 #[sysV s A n c,.int .i64 task] w fun e w'=>e=.returned (.bool (tsk? s task).isSome)∧But No w w':=by
 have HN:=h.ts.len
 have CR:Hid (∀ W,But No w W→Calls Tryz.prog 75 #[sysV s A n c] W fun e w'=>e=.returned (.bool (right s))∧But No W w'):=fun W hb=>right_any s A n c W (h.no hb)
 clear h
 rcases tsk_cases s task with⟨k,t,rfl,h2,h3,h4⟩ | ⟨h4,h5⟩
 ·have hk:=(List.getElem?_eq_some_iff.1 h2).1
  rw[HN] at hk
  have hk2:(k:Int)<(n:Int):=by omega
  have hk0:(0:Int)≤(k:Int):=Int.natCast_nonneg k
  rw[h3] at CR
  rw[h4]
  clear h2 h3 h4 HN
  unfold sysV at CR ⊢
  go_enter Tryz.func167,Tryz.ntmps167
  go_wp2_with (go_at_call 75;refine(CR.out _ ((But.refl No w).alloc _)).mono ?_;rintro e w1 ⟨rfl,hb1⟩;have HB1:=hid (((But.refl No w).alloc _).trans hb1);clear hb1)
  go_ret
  exact⟨rfl,HB1.out⟩
 ·rw[h4,show (none:Option Tsk).isSome=false from rfl]
  clear h4
  by_cases h0:task<0
  ·have b0:decide ((0:Int)≤task)=false:=by simp;omega
   clear h5
   unfold sysV at CR ⊢
   go_enter Tryz.func167,Tryz.ntmps167
   go_wp2
   go_ret
   exact⟨rfl,(But.refl No w).alloc _⟩
  ·have b0:decide ((0:Int)≤task)=true:=by simp;omega
   by_cases h1:(n:Int)≤task
   ·have b1:decide (task<(n:Int))=false:=by simp;omega
    clear h5
    unfold sysV at CR ⊢
    go_enter Tryz.func167,Tryz.ntmps167
    go_wp2
    go_ret
    exact⟨rfl,(But.refl No w).alloc _⟩
   ·have b1:decide (task<(n:Int))=true:=by simp;omega
    have h3:right s=false:=by
     rw[HN] at h5
     rcases h5 with h | h | h
     ·omega
     ·omega
     ·exact h
    rw[h3] at CR
    clear h3 h5
    unfold sysV at CR ⊢
    go_enter Tryz.func167,Tryz.ntmps167
    go_wp2_with (go_at_call 75;refine(CR.out _ ((But.refl No w).alloc _)).mono ?_;rintro e w1 ⟨rfl,hb1⟩;have HB1:=hid (((But.refl No w).alloc _).trans hb1);clear hb1)
    go_ret
    exact⟨rfl,HB1.out⟩
theorem tskN (s:Sys) (task:Int) (h:tsk? s task=none):(tsk? s task).isSome=false:=by rw[h];rfl
set_option maxRecDepth 100000 in
set_option maxHeartbeats 2000000 in
theorem find_any (s:Sys) (A:Option Addr) (n c:Nat) (task sect:Int) (w:World) (h:RSys w A n c s):Calls Tryz.prog 179 #[sysV s A n c,.int .i64 task,.int .i64 sect] w fun e w'=>e=.returned (findV (sec? s task sect))∧But No w w':=by
 have HN:=h.ts.len
 have HR:=hid h.ts
 have CH:Hid (∀ W,But No w W→Calls Tryz.prog 167 #[sysV s A n c,.int .i64 task] W fun e w'=>e=.returned (.bool (tsk? s task).isSome)∧But No W w'):=fun W hb=>hasTask_any s A n c task W (h.no hb)
 clear h
 rcases sec_cases s task sect with⟨k,t,j,x,rfl,h2,h3,h4,rfl,h5,h6⟩ | ⟨h6,h4⟩ | ⟨h6,k,t,rfl,h2,h3,h4,h5⟩
 ·have hk:=(List.getElem?_eq_some_iff.1 h2).1
  rw[HN] at hk
  have hk2:(k:Int)<(n:Int):=by omega
  have hk0:(0:Int)≤(k:Int):=Int.natCast_nonneg k
  rw[h6]
  rw[h4,show (some t).isSome=true from rfl] at CH
  obtain⟨b,off,A',c',rfl,_,_,_,c3,_,hS⟩:=HR.out.at1 h2
  have hj:=(List.getElem?_eq_some_iff.1 h5).1
  obtain⟨bb,oo,rfl,e0,e1,e2⟩:=hS.at1 h5
  obtain⟨x0,x1,x2⟩:=x
  simp only at e0 e1 e2
  generalize t.secs.length=m at c3 hj
  have hj2:(j:Int)<(m:Int):=by omega
  have hj0:(0:Int)≤(j:Int):=Int.natCast_nonneg j
  have b1:decide ((m:Int)≤(j:Int))=false:=by simp;omega
  have b2:decide (m≤j)=false:=by simp;omega
  clear h2 h3 h4 h5 h6 hS HN
  unfold sysV at CH ⊢
  go_enter Tryz.func179,Tryz.ntmps179
  go_wp2_with (go_at_call 167;refine(CH.out _ (((But.refl No w).alloc _).alloc _)).mono ?_;rintro e w1 ⟨rfl,hb1⟩;have hB:=(((But.refl No w).alloc _).alloc _).trans hb1;have HB1:=hid hB;have q3:=cell_keep c3 hB;have r0:=cell_keep e0 hB;have r1:=cell_keep e1 hB;have r2:=cell_keep e2 hB;have hx:=(blk2 w (.cells (boxS s (some ⟨b,off,none⟩) n c) 24) #[.int .i64 0,.int .i64 0,.int .i64 0] 120).but hb1 (fun f=>f);have HX:=hid hx;have f0:=hx.frozen 0;have f1:=hx.frozen 1;have f2:=hx.frozen 2;have g0:=hx.cell (o:=0) rfl;have g1:=hx.cell (o:=1) rfl;have g2:=hx.cell (o:=2) rfl;have s8:w1.cell? ⟨w.heap.size,8,none⟩=some (.slice (some ⟨b,off,none⟩) n c):=(((Blk.new w (boxS s (some ⟨b,off,none⟩) n c) 24).alloc (.cells #[.int .i64 0,.int .i64 0,.int .i64 0] 120)).but hb1 (fun f=>f)).cell (o:=8) rfl;clear hx hb1 hB)
  obtain⟨w3,hw3,hb3,k0,k1,k2⟩:∃ w3,((w1.setCell ⟨w.heap.size+1,0,none⟩ (.int .i64 x0)).setCell ⟨w.heap.size+1,1,none⟩ (.int .i64 x1)).setCell ⟨w.heap.size+1,2,none⟩ (.int .i64 x2)=w3∧But No w w3∧w3.cell? ⟨w.heap.size+1,0,none⟩=some (.int .i64 x0)∧w3.cell? ⟨w.heap.size+1,1,none⟩=some (.int .i64 x1)∧w3.cell? ⟨w.heap.size+1,2,none⟩=some (.int .i64 x2):=by
   have hb:=store3 HX.out (.int .i64 x0) (.int .i64 x1) (.int .i64 x2)
   exact⟨_,rfl,((HB1.out.setNew (Nat.le_succ _) _).setNew (Nat.le_succ _) _).setNew (Nat.le_succ _) _,hb.cell rfl,hb.cell rfl,hb.cell rfl⟩
  rw[hw3]
  clear hw3
  refine bodyPost_ret (v:=findV (some (x0,x1,x2))) (by simp[results,Tryz.results179,go_sem,k0,k1,k2,findV]) rfl ?_
  exact⟨rfl,hb3⟩
 ·rw[h6]
  rw[tskN s task h4] at CH
  clear h4 h6 HN
  unfold sysV at CH ⊢
  go_enter Tryz.func179,Tryz.ntmps179
  go_wp2_with (go_at_call 167;refine(CH.out _ (((But.refl No w).alloc _).alloc _)).mono ?_;rintro e w1 ⟨rfl,hb1⟩;have hB:=(((But.refl No w).alloc _).alloc _).trans hb1;have HB1:=hid hB;have hx:=(blk2 w (.cells (boxS s A n c) 24) #[.int .i64 0,.int .i64 0,.int .i64 0] 120).but hb1 (fun f=>f);have HX:=hid hx;have f0:=hx.frozen 0;have f1:=hx.frozen 1;have f2:=hx.frozen 2;have g0:=hx.cell (o:=0) rfl;have g1:=hx.cell (o:=1) rfl;have g2:=hx.cell (o:=2) rfl;have s8:w1.cell? ⟨w.heap.size,8,none⟩=some (.slice A n c):=(((Blk.new w (boxS s A n c) 24).alloc (.cells #[.int .i64 0,.int .i64 0,.int .i64 0] 120)).but hb1 (fun f=>f)).cell (o:=8) rfl;clear hx hb1 hB)
  obtain⟨w3,hw3,hb3,k0,k1,k2⟩:∃ w3,((w1.setCell ⟨w.heap.size+1,0,none⟩ (.int .i64 0)).setCell ⟨w.heap.size+1,1,none⟩ (.int .i64 0)).setCell ⟨w.heap.size+1,2,none⟩ (.int .i64 0)=w3∧But No w w3∧w3.cell? ⟨w.heap.size+1,0,none⟩=some (.int .i64 0)∧w3.cell? ⟨w.heap.size+1,1,none⟩=some (.int .i64 0)∧w3.cell? ⟨w.heap.size+1,2,none⟩=some (.int .i64 0):=by
   have hb:=store3 HX.out (.int .i64 0) (.int .i64 0) (.int .i64 0)
   exact⟨_,rfl,((HB1.out.setNew (Nat.le_succ _) _).setNew (Nat.le_succ _) _).setNew (Nat.le_succ _) _,hb.cell rfl,hb.cell rfl,hb.cell rfl⟩
  rw[hw3]
  clear hw3
  refine bodyPost_ret (v:=findV (none)) (by simp[results,Tryz.results179,go_sem,k0,k1,k2,findV]) rfl ?_
  exact⟨rfl,hb3⟩
 ·have hk:=(List.getElem?_eq_some_iff.1 h2).1
  rw[HN] at hk
  have hk2:(k:Int)<(n:Int):=by omega
  have hk0:(0:Int)≤(k:Int):=Int.natCast_nonneg k
  rw[h6]
  rw[h4,show (some t).isSome=true from rfl] at CH
  obtain⟨b,off,A',c',rfl,_,_,_,c3,_,hS⟩:=HR.out.at1 h2
  have HM:=hid hS.len
  generalize t.secs.length=m at c3 h5
  by_cases h0:sect<0
  ·have b0:decide (sect<0)=true:=by simp[h0]
   clear h2 h3 h4 h5 h6 hS HN
   unfold sysV at CH ⊢
   go_enter Tryz.func179,Tryz.ntmps179
   go_wp2_with (go_at_call 167;refine(CH.out _ (((But.refl No w).alloc _).alloc _)).mono ?_;rintro e w1 ⟨rfl,hb1⟩;have hB:=(((But.refl No w).alloc _).alloc _).trans hb1;have HB1:=hid hB;have q3:=cell_keep c3 hB;have hx:=(blk2 w (.cells (boxS s (some ⟨b,off,none⟩) n c) 24) #[.int .i64 0,.int .i64 0,.int .i64 0] 120).but hb1 (fun f=>f);have HX:=hid hx;have f0:=hx.frozen 0;have f1:=hx.frozen 1;have f2:=hx.frozen 2;have g0:=hx.cell (o:=0) rfl;have g1:=hx.cell (o:=1) rfl;have g2:=hx.cell (o:=2) rfl;have s8:w1.cell? ⟨w.heap.size,8,none⟩=some (.slice (some ⟨b,off,none⟩) n c):=(((Blk.new w (boxS s (some ⟨b,off,none⟩) n c) 24).alloc (.cells #[.int .i64 0,.int .i64 0,.int .i64 0] 120)).but hb1 (fun f=>f)).cell (o:=8) rfl;clear hx hb1 hB)
   obtain⟨w3,hw3,hb3,k0,k1,k2⟩:∃ w3,((w1.setCell ⟨w.heap.size+1,0,none⟩ (.int .i64 0)).setCell ⟨w.heap.size+1,1,none⟩ (.int .i64 0)).setCell ⟨w.heap.size+1,2,none⟩ (.int .i64 0)=w3∧But No w w3∧w3.cell? ⟨w.heap.size+1,0,none⟩=some (.int .i64 0)∧w3.cell? ⟨w.heap.size+1,1,none⟩=some (.int .i64 0)∧w3.cell? ⟨w.heap.size+1,2,none⟩=some (.int .i64 0):=by
    have hb:=store3 HX.out (.int .i64 0) (.int .i64 0) (.int .i64 0)
    exact⟨_,rfl,((HB1.out.setNew (Nat.le_succ _) _).setNew (Nat.le_succ _) _).setNew (Nat.le_succ _) _,hb.cell rfl,hb.cell rfl,hb.cell rfl⟩
   rw[hw3]
   clear hw3
   refine bodyPost_ret (v:=findV (none)) (by simp[results,Tryz.results179,go_sem,k0,k1,k2,findV]) rfl ?_
   exact⟨rfl,hb3⟩
  ·have b0:decide (sect<0)=false:=by simp;omega
   have b1:decide ((m:Int)≤sect)=true:=by simp;omega
   clear h2 h3 h4 h5 h6 hS HN
   unfold sysV at CH ⊢
   go_enter Tryz.func179,Tryz.ntmps179
   go_wp2_with (go_at_call 167;refine(CH.out _ (((But.refl No w).alloc _).alloc _)).mono ?_;rintro e w1 ⟨rfl,hb1⟩;have hB:=(((But.refl No w).alloc _).alloc _).trans hb1;have HB1:=hid hB;have q3:=cell_keep c3 hB;have hx:=(blk2 w (.cells (boxS s (some ⟨b,off,none⟩) n c) 24) #[.int .i64 0,.int .i64 0,.int .i64 0] 120).but hb1 (fun f=>f);have HX:=hid hx;have f0:=hx.frozen 0;have f1:=hx.frozen 1;have f2:=hx.frozen 2;have g0:=hx.cell (o:=0) rfl;have g1:=hx.cell (o:=1) rfl;have g2:=hx.cell (o:=2) rfl;have s8:w1.cell? ⟨w.heap.size,8,none⟩=some (.slice (some ⟨b,off,none⟩) n c):=(((Blk.new w (boxS s (some ⟨b,off,none⟩) n c) 24).alloc (.cells #[.int .i64 0,.int .i64 0,.int .i64 0] 120)).but hb1 (fun f=>f)).cell (o:=8) rfl;clear hx hb1 hB)
   obtain⟨w3,hw3,hb3,k0,k1,k2⟩:∃ w3,((w1.setCell ⟨w.heap.size+1,0,none⟩ (.int .i64 0)).setCell ⟨w.heap.size+1,1,none⟩ (.int .i64 0)).setCell ⟨w.heap.size+1,2,none⟩ (.int .i64 0)=w3∧But No w w3∧w3.cell? ⟨w.heap.size+1,0,none⟩=some (.int .i64 0)∧w3.cell? ⟨w.heap.size+1,1,none⟩=some (.int .i64 0)∧w3.cell? ⟨w.heap.size+1,2,none⟩=some (.int .i64 0):=by
    have hb:=store3 HX.out (.int .i64 0) (.int .i64 0) (.int .i64 0)
    exact⟨_,rfl,((HB1.out.setNew (Nat.le_succ _) _).setNew (Nat.le_succ _) _).setNew (Nat.le_succ _) _,hb.cell rfl,hb.cell rfl,hb.cell rfl⟩
   rw[hw3]
   clear hw3
   refine bodyPost_ret (v:=findV (none)) (by simp[results,Tryz.results179,go_sem,k0,k1,k2,findV]) rfl ?_
   exact⟨rfl,hb3⟩
theorem tskS (s:Sys) (task:Int) {t:Tsk} (h:tsk? s task=some t):(tsk? s task).isSome=true:=by rw[h];rfl
end Go.Proofs.YtikcigjbhohboaaGreat.ter
end
