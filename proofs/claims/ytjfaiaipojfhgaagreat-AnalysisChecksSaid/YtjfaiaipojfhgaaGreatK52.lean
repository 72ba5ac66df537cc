/- Part 52 of a proof: PlWc. -/
import Derived.Test.YtjfaiaipojfhgaaGreatK03
import Derived.Test.YtjfaiaipojfhgaaGreatK29
import Derived.Test.YtjfaiaipojfhgaaGreatK30
section
namespace Go.Proofs.YtjfaiaipojfhgaaGreat.pln
open Go.Lib (hid)
open Go.ChangeShapes Go.WideShapes Go.ChangeAt Go.RowKit Go.Deep val
theorem chkV_len (s:Sys) (L:List (List Pc)):(chkV s L).1.length≤100000:=by
 unfold chkV
 split
 ·next h =>
  have:=(plR_small h).1
  split
  ·simp
  ·simp;omega
 ·simp
namespace analysisChecks
set_option maxRecDepth 100000 in
set_option maxHeartbeats 4000000 in
theorem walk (CK:CheckIs) (s:Sys) (A:Option Addr) (c:Nat) (A':Option Addr) (N c':Nat) (L:List (List Pc)) (_:N≤c') (w:World) (hs:RSys w A s.ts.length c s) (hl:RPl w A' N L) :
  Calls Tryz.prog 4 #[sysV s A s.ts.length c,.slice A' N c'] w fun e w'=>e=.returned (.bool true)∧But No w w':=by
 have CX:Hid (∀ W,Calls Tryz.prog 10 #[] W fun e w'=>e=.returned (.bool true)∧But No W w'):=hid (fun W=>examples_ok CK W)
 have hlen:=chkV_len s L
 have CA:Hid (∀ W,But No w W→Calls Tryz.prog 21 #[sysV s A s.ts.length c,.slice A' N c'] W fun e w'=>∃ B k,e=.returned (.tuple #[.slice B (chkV s L).1.length k,.int .i64 (chkV s L).2.1,.int .i64 (chkV s L).2.2])∧But No W w'∧Rl w' B (chkV s L).1.length (chkV s L).1) :=
  hid (fun W hw=>(CK s A _ c A' N c' L W (hs.no hw) (hl.no hw)).mono fun e w' h=>by
   obtain⟨v,he,hb,ho⟩:=h
   obtain⟨B,k,rfl,hc⟩:=ho.slice
   exact⟨B,k,he,hb,(ho.rl hlen).1⟩)
 have CB:Hid (∀ W,But No w W→Calls Tryz.prog 22 #[sysV s A s.ts.length c,.slice A' N c'] W fun e w'=>∃ B k,e=.returned (.tuple #[.slice B (chkV s L).1.length k,.int .i64 (chkV s L).2.1,.int .i64 (chkV s L).2.2])∧But No W w'∧Rl w' B (chkV s L).1.length (chkV s L).1) :=
  hid (fun W hw=>(rcheck_any s A _ c A' N c' L W (hs.no hw) (hl.no hw)).mono fun e w' h=>by
   obtain⟨v,he,hb,ho⟩:=h
   obtain⟨B,k,rfl,hc⟩:=ho.slice
   exact⟨B,k,he,hb,(ho.rl hlen).1⟩)
 generalize (chkV s L).1=zs at CA CB hlen
 generalize (chkV s L).2.1=x at CA CB
 generalize (chkV s L).2.2=y at CA CB
 have CN:Hid (∀ B k D q W,Rl W B zs.length zs→Rl W D zs.length zs→Calls Tryz.prog 16 #[.slice B zs.length k,.slice D zs.length q] W fun e w'=>e=.returned (.bool true)∧But No W w'):=hid (fun B k D q W h1 h2=>(numbers_any B D zs.length zs.length k q zs zs W h1 h2).mono fun e w' h=>by rw[decide_eq_true rfl] at h;exact h)
 generalize zs.length=m at CA CB CN
 have hB0:=(But.refl No w).alloc (.cells (boxS s A s.ts.length c) 24)
 have hS0:=hid (Blk.new w (boxS s A s.ts.length c) 24)
 have HB0:=hid hB0
 have BK:Hid (∀ W,But No (w.alloc (.cells (boxS s A s.ts.length c) 24)) W→S9 W w.heap.size s A s.ts.length c):=hid (fun W hb=>sys_cells (hS0.out.but hb (fun f=>f)))
 clear hs hl hB0 hS0 CK hlen
 unfold boxS at BK HB0
 unfold sysV at CA CB ⊢
 go_enter Tryz.func4,Tryz.ntmps4
 go_upto_region 2 with(go_at_call 10;(with_reducible refine(CX.out _).mono ?_);rintro e w1 ⟨rfl,h1⟩)
 have H1:=hid h1
 obtain⟨c0,c1,c2,c3,c4,c5,c6,c7,c8⟩:=BK.out _ H1.out
 clear h1
 go_upto_region 3 with(go_at_call 21;(with_reducible refine(CA.out _ (HB0.out.trans H1.out)).mono ?_);rintro e w2 ⟨B,k,rfl,h2,r2⟩)
 have H2:=hid (H1.out.trans h2)
 have R2:=hid r2
 clear c0 c1 c2 c3 c4 c5 c6 c7 c8 h2 r2
 obtain⟨c0,c1,c2,c3,c4,c5,c6,c7,c8⟩:=BK.out _ H2.out
 go_upto_region 4 with(go_at_call 22;(with_reducible refine(CB.out _ (HB0.out.trans H2.out)).mono ?_);rintro e w3 ⟨D,q,rfl,h3,r3⟩)
 have H3:=hid (H2.out.trans h3)
 have R3:=hid (And.intro (R2.out.no h3) r3)
 clear c0 c1 c2 c3 c4 c5 c6 c7 c8 h3 r3
 have a0:(x == x)=true:=by simp
 have a1:(y == y)=true:=by simp
 go_wp2_with (go_at_call 16;(with_reducible refine(CN.out _ _ _ _ _ R3.out.1 R3.out.2).mono ?_);rintro e w4 ⟨rfl,h4⟩;have H4:=hid (H3.out.trans h4);clear h4)
 go_ret
 exact⟨rfl,HB0.out.trans H4.out⟩
end analysisChecks
end Go.Proofs.YtjfaiaipojfhgaaGreat.pln
end
