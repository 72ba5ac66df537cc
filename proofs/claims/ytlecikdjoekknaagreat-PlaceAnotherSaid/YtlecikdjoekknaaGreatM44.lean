/- Part 44 of a proof: PfP PfL. -/
import Derived.Test.YtlecikdjoekknaaGreatM10
import Derived.Test.YtlecikdjoekknaaGreatM43
set_option maxRecDepth 100000
set_option maxHeartbeats 16000000
set_option linter.unusedVariables false
set_option linter.unusedSimpArgs false
section
namespace Go.Proofs.YtlecikdjoekknaaGreat.pln
open Go.Lib (hid)
open Go.ChangeShapes Go.WideShapes Go.ChangeAt Go.RowKit Go.Deep val
abbrev PlaceIs : Prop:=∀ (s:Sys) (A:Option Addr) (n c:Nat) (w:World),RSys w A n c s->Calls Tryz.prog 14 #[sysV s A n c] w λ e w'=>∃ A1 N1 c1 B k,e=.returned (.tuple #[.slice A1 N1 c1,.slice B (plcV s).2.1.length k,.int .i64 (plcV s).2.2])/\But No w w'/\RPl w' A1 N1 (plcV s).1/\Rl w' B (plcV s).2.1.length (plcV s).2.1
theorem ex26 : (plcV (smS 2 6)).1 = [[⟨0,6,10,1,false⟩], [⟨1,6,10,1,false⟩]]/\(plcV (smS 2 6)).2.2=0:=⟨by kernel_rfl,by kernel_rfl⟩
theorem ex36 : (plcV (smS 3 6)).1 = [[⟨0,6,10,1,false⟩], [⟨1,6,10,2,false⟩], [⟨0,4,4,0,true⟩,⟨1,2,6,1,false⟩]]/\(plcV (smS 3 6)).2.1.length=3/\(plcV (smS 3 6)).2.2=0:=⟨by kernel_rfl,by kernel_rfl,by kernel_rfl⟩
theorem ex37 : (plcV (smS 3 7)).2.2=12:=by kernel_rfl
theorem examples_ok (P:PlaceIs) (w:World):Calls Tryz.prog 10 #[] w λ e w'=>e=.returned (.bool true)/\But No w w':=by
 have S26:Hid (∀ W,Calls Tryz.prog 21 #[.int .i64 2,.int .i64 6] W λ e w'=>∃ A c,e=.returned (.agg #[.int .i64 2,.int .i64 1,.int .i64 1,.int .i64 0,.int .i64 0,.int .i64 0,.int .i64 1,.int .i64 0,.slice A 2 c])/\But No W w'/\RSys w' A 2 c (smS 2 6)):=hid (λ W=>some_any 2 6 (by unfold inR;omega) (by omega) W)
 have S36:Hid (∀ W,Calls Tryz.prog 21 #[.int .i64 3,.int .i64 6] W λ e w'=>∃ A c,e=.returned (.agg #[.int .i64 2,.int .i64 1,.int .i64 1,.int .i64 0,.int .i64 0,.int .i64 0,.int .i64 1,.int .i64 0,.slice A 3 c])/\But No W w'/\RSys w' A 3 c (smS 3 6)):=hid (λ W=>some_any 3 6 (by unfold inR;omega) (by omega) W)
 have S37:Hid (∀ W,Calls Tryz.prog 21 #[.int .i64 3,.int .i64 7] W λ e w'=>∃ A c,e=.returned (.agg #[.int .i64 2,.int .i64 1,.int .i64 1,.int .i64 0,.int .i64 0,.int .i64 0,.int .i64 1,.int .i64 0,.slice A 3 c])/\But No W w'/\RSys w' A 3 c (smS 3 7)):=hid (λ W=>some_any 3 7 (by unfold inR;omega) (by omega) W)
 have P26:Hid (∀ W A c,RSys W A 2 c (smS 2 6)->Calls Tryz.prog 14 #[.agg #[.int .i64 2,.int .i64 1,.int .i64 1,.int .i64 0,.int .i64 0,.int .i64 0,.int .i64 1,.int .i64 0,.slice A 2 c]] W λ e w'=>∃ b off c1 B m k br or cr,e=.returned (.tuple #[.slice (some ⟨b,off,none⟩) 2 c1,.slice B m k,.int .i64 0])/\But No W w'/\w'.cell? ⟨b,off+1,none⟩=some (.slice (some ⟨br,or,none⟩) 1 cr)/\w'.cell? ⟨br,or,none⟩=some (.int .i64 1)):=hid (λ W A c h=>(P (smS 2 6) A 2 c W h).mono λ e w' h2=>by
  obtain⟨A1,N1,c1,B,k,h3,h4,h5,h6⟩:=h2
  obtain⟨e1,e2⟩:=ex26
  rw[e1] at h5
  rw[e2] at h3
  obtain rfl:2=N1:=h5.len
  obtain⟨b,off,A',c',rfl,_,q1,_,q2⟩:=h5.at1 (k:=1) rfl
  obtain⟨br,or,rfl,_,r0,_⟩:=q2.at1 (k:=0) rfl
  exact⟨b,off,c1,B,_,k,br,or,c',h3,h4,q1,by simpa using r0⟩)
 have P36:Hid (∀ W A c,RSys W A 3 c (smS 3 6)->Calls Tryz.prog 14 #[.agg #[.int .i64 2,.int .i64 1,.int .i64 1,.int .i64 0,.int .i64 0,.int .i64 0,.int .i64 1,.int .i64 0,.slice A 3 c]] W λ e w'=>∃ b off c1 B k br or cr,e=.returned (.tuple #[.slice (some ⟨b,off,none⟩) 3 c1,.slice B 3 k,.int .i64 0])/\But No W w'/\w'.cell? ⟨b,off+2,none⟩=some (.slice (some ⟨br,or,none⟩) 2 cr)/\w'.cell? ⟨br,or,none⟩=some (.int .i64 0)/\w'.cell? ⟨br,or+1,none⟩=some (.int .i64 4)/\w'.cell? ⟨br,or+2,none⟩=some (.int .i64 4)/\w'.cell? ⟨br,or+3,none⟩=some (.int .i64 0)/\w'.cell? ⟨br,or+4,none⟩=some (.bool true)/\w'.cell? ⟨br,or+5,none⟩=some (.int .i64 1)/\w'.cell? ⟨br,or+5+1,none⟩=some (.int .i64 2)/\w'.cell? ⟨br,or+5+2,none⟩=some (.int .i64 6)/\w'.cell? ⟨br,or+5+3,none⟩=some (.int .i64 1)/\w'.cell? ⟨br,or+5+4,none⟩=some (.bool false)):=hid (λ W A c h=>(P (smS 3 6) A 3 c W h).mono λ e w' h2=>by
  obtain⟨A1,N1,c1,B,k,h3,h4,h5,h6⟩:=h2
  obtain⟨e1,e2,e3⟩:=ex36
  rw[e1] at h5
  rw[e2,e3] at h3
  obtain rfl:3=N1:=h5.len
  obtain⟨b,off,A',c',rfl,_,q1,_,q2⟩:=h5.at1 (k:=2) rfl
  obtain⟨br,or,rfl,_,r0,r1,r2,r3,r4⟩:=q2.at1 (k:=0) rfl
  obtain⟨br',or',e4,_,u0,u1,u2,u3,u4⟩:=q2.at1 (k:=1) rfl
  cases e4
  simp only[Nat.zero_mul,Nat.add_zero,Nat.one_mul] at r0 r1 r2 r3 r4 u0 u1 u2 u3 u4
  exact⟨b,off,c1,B,k,br,or,c',h3,h4,q1,r0,r1,r2,r3,r4,u0,u1,u2,u3,u4⟩)
 have P37:Hid (∀ W A c,RSys W A 3 c (smS 3 7)->Calls Tryz.prog 14 #[.agg #[.int .i64 2,.int .i64 1,.int .i64 1,.int .i64 0,.int .i64 0,.int .i64 0,.int .i64 1,.int .i64 0,.slice A 3 c]] W λ e w'=>∃ A1 N1 c1 B m k,e=.returned (.tuple #[.slice A1 N1 c1,.slice B m k,.int .i64 12])/\But No W w'):=hid (λ W A c h=>(P (smS 3 7) A 3 c W h).mono λ e w' h2=>by
  obtain⟨A1,N1,c1,B,k,h3,h4,_,_⟩:=h2
  rw[ex37] at h3
  exact⟨A1,N1,c1,B,_,k,h3,h4⟩)
 clear P
 go_enter Tryz.func10,Tryz.ntmps10
 go_wp2_with (first | (go_at_call 21;first | ((with_reducible refine(S26.out _).mono ?_);rintro e w1 ⟨A1,c1,rfl,h1,s1⟩;have H1:=hid h1;have R1:=hid s1;clear h1 s1) | ((with_reducible refine(S36.out _).mono ?_);rintro e w3 ⟨A3,c3,rfl,h3,s3⟩;have H3:=hid h3;have R3:=hid s3;clear h3 s3) | ((with_reducible refine(S37.out _).mono ?_);rintro e w5 ⟨A5,c5,rfl,h5,s5⟩;have H5:=hid h5;have R5:=hid s5;clear h5 s5)) | (go_at_call 14;first | ((with_reducible refine(P37.out _ _ _ R5.out).mono ?_);rintro e w6 ⟨A6,N6,c6,B6,m6,k6,rfl,h6⟩;have H6:=hid h6;clear h6;have p1:=cell_keep X1.out (H3.out.trans (H4.out.trans (H5.out.trans H6.out)));have p2:=cell_keep X2.out (H3.out.trans (H4.out.trans (H5.out.trans H6.out)));have q0:=cell_keep Q0.out (H5.out.trans H6.out);have q1:=cell_keep Q1.out (H5.out.trans H6.out);have q2:=cell_keep Q2.out (H5.out.trans H6.out);have q3:=cell_keep Q3.out (H5.out.trans H6.out);have q4:=cell_keep Q4.out (H5.out.trans H6.out);have q5:=cell_keep Q5.out (H5.out.trans H6.out);have q6:=cell_keep Q6.out (H5.out.trans H6.out);have q7:=cell_keep Q7.out (H5.out.trans H6.out);have q8:=cell_keep Q8.out (H5.out.trans H6.out);have q9:=cell_keep Q9.out (H5.out.trans H6.out);have q10:=cell_keep Q10.out (H5.out.trans H6.out)) | ((with_reducible refine(P36.out _ _ _ R3.out).mono ?_);rintro e w4 ⟨b4,off4,c4,B4,k4,br4,or4,cr4,rfl,h4,q0,q1,q2,q3,q4,q5,q6,q7,q8,q9,q10⟩;have H4:=hid h4;have Q0:=hid q0;have Q1:=hid q1;have Q2:=hid q2;have Q3:=hid q3;have Q4:=hid q4;have Q5:=hid q5;have Q6:=hid q6;have Q7:=hid q7;have Q8:=hid q8;have Q9:=hid q9;have Q10:=hid q10;clear h4 q0 q1 q2 q3 q4 q5 q6 q7 q8 q9 q10) | ((with_reducible refine(P26.out _ _ _ R1.out).mono ?_);rintro e w2 ⟨b2,off2,c2,B2,m2,k2,br2,or2,cr2,rfl,h2,p1,p2⟩;have H2:=hid h2;have X1:=hid p1;have X2:=hid p2;clear h2 p1 p2)))
 go_ret
 exact⟨rfl,H1.out.trans (H2.out.trans (H3.out.trans (H4.out.trans (H5.out.trans H6.out))))⟩
end Go.Proofs.YtlecikdjoekknaaGreat.pln
end
section
namespace Go.Proofs.YtlecikdjoekknaaGreat.pln
open val ter
theorem rkV_get {s:Sys} {L:List (List Pc)} {i:Nat} {l:List Pc} (h:L[i]? = some l):(rkV s L)[i]? = some (rkL s L i l):=rkV_at h
theorem Plc.rk {s:Sys} {L:List (List Pc)} (h:Plc s L):Plc s (rkV s L):=by
 refine⟨by have:=h.g;unfold good at this ⊢;rw[chk_rk];exact this,λ i hi=>?_⟩
 obtain⟨l,p,e,q⟩:=h.z i hi
 exact⟨rkL s L i l,rkP s L i p,by rw[rkV_get e];simp[rkL],q⟩
theorem Plc.len {s:Sys} {L:List (List Pc)} (h:Plc s L):L.length=s.ts.length:=(plR_parts h.right).2.1
theorem plc_ans (s:Sys):(∃ x,plcV s=([], [],x)/\(x == 0)=false/\(x == 1) = !right s)\/(right s=true/\∃ R,Plc s R/\plcV s=(R,(chkV s R).1,0)/\(chkV s R).1.length=s.ts.length/\R.length=s.ts.length/\plR s R=true/\(chkV s R).2.1 = -1/\(chkV s R).2.2=0):=by
 rcases plc_cases s with⟨h,e⟩ | ⟨h,x,hx,e⟩ | ⟨h,L,hp,e⟩
 ·exact .inl ⟨1,e,rfl,by rw[h];rfl⟩
 ·refine .inl ⟨x,e,?_,?_⟩
  ·rcases hx with rfl | rfl | rfl <;> rfl
  ·rw[h];rcases hx with rfl | rfl | rfl <;> rfl
 ·have hg:=(good_right hp.rk.g).2.2
  refine .inr ⟨h,rkV s L,hp.rk,by rw[e,chk_rk],?_,hp.rk.len,hp.rk.right,by rw[hg],by rw[hg]⟩
  rw[hg,List.length_map,List.length_range,hp.rk.len]
end Go.Proofs.YtlecikdjoekknaaGreat.pln
end
