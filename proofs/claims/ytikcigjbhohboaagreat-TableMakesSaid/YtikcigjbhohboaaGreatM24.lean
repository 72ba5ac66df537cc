/- Part 24 of a proof: PaP2 PaZ PaL PaL2. -/
import Derived.Deep.RegionHeld3
import Derived.Lib.QuietBelow
import Derived.OrdersIn
import Derived.RangeFuncBound
import Derived.RangeFuncCalls
import Derived.RangeFuncLeaves
import Derived.RangeFuncNested
import Derived.Shelf.RegionOpen
import Derived.Test.YtikcigjbhohboaaGreatM06
import Derived.Test.YtikcigjbhohboaaGreatM17
import Derived.Test.YtikcigjbhohboaaGreatM18
import Derived.Test.YtikcigjbhohboaaGreatM23
section
namespace Go.Proofs.YtikcigjbhohboaaGreat.pln
open Go.Lib (hid)
open Go.ChangeShapes Go.WideShapes Go.ChangeAt Go.RowKit Go.Deep val Go.Sort
theorem regrown_but {w:World} (d:Nat) (os:Array Obj):But No w (grow (redrawn w d) os):=by
 have h:=below_regrown w d os
 exact⟨h.os,h.tape,h.output,h.size,fun k hk _=>h.block k hk⟩
theorem calls_but {P:Program} {f:FuncId} {args:Array Value} {w:World} {v:Value} (h:∀ W,But No w W→Calls P f args W fun e w'=>e=.returned v∧But No W w') (d:Nat) (os:Array Obj) :
  Calls P f args (grow (redrawn w d) os) fun e w''=>e=.returned v∧∃ p:Regrown,w''=grow (redrawn w p.d) p.os :=
 Calls.regrown_of ((h _ (regrown_but d os)).mono fun _ _ h=>⟨h.1,h.2.all⟩)
def rgV (s:Sys) (t:Tsk) (x:Pt):Bool :=
 !(decide ((8:Int)≤(x.k:Int)) || (decide (x.p.co<0) || (decide (s.co≤x.p.co) || decide (x.p.bu<1)))) &&
 if x.p.ti=true then decide (x.p.bu<wrp (t.w-x.dn)) && (decide (x.p.de=x.p.bu) && decide (t.secs.length=0))
 else x.la && (decide (x.p.bu=wrp (t.w-x.dn)) && (decide (x.p.de=wrp (t.d-wrp (x.dn+x.ji))) && decide (1≤x.p.de)))
set_option maxRecDepth 100000 in
set_option maxHeartbeats 4000000 in
theorem rgt_any (x:Pt) (s:Sys) (A:Option Addr) (n c:Nat) (t:Tsk) (w:World) (hs:RSys w A n c s) (ht:s.ts[x.i]? = some t) :
  Calls Tryz.prog 94 #[ptV x,sysV s A n c] w fun e w'=>e=.returned (.bool (rgV s t x))∧But No w w':=by
 have CB:Hid (∀ W,Calls Tryz.prog 113 #[ptV x] W fun e w'=>e=.returned (.int .i64 (wrp (x.dn+x.ji)))∧But No W w'):=hid (fun W=>before_any x W)
 generalize hVV:rgV s t x=V
 unfold rgV at hVV
 have HV:=hid hVV
 clear hVV
 obtain⟨⟨co,bu,de,pr,ti⟩,i,k,la,dn,ji⟩:=x
 dsimp only[ptV,ptA] at CB HV ht ⊢
 have hW:IntKind.i64.wrap (t.w-dn)=wrp (t.w-dn):=rfl
 have hD:IntKind.i64.wrap (t.d-wrp (dn+ji))=wrp (t.d-wrp (dn+ji)):=rfl
 generalize wrp (t.w-dn)=rest at hW HV ⊢
 generalize wrp (dn+ji)=bf at CB hD HV ⊢
 generalize wrp (t.d-bf)=dl at hD HV ⊢
 have hin:(i:Int)<(n:Int):=by have:=(List.getElem?_eq_some_iff.1 ht).1;have:=hs.ts.len;omega
 have hi0:(0:Int)≤(i:Int):=Int.natCast_nonneg i
 have hb0:But No w ((w.alloc (.cells #[.int .i64 co,.int .i64 bu,.int .i64 de,.int .i64 pr,.bool ti,.int .i64 (i:Int),.int .i64 (k:Int),.bool la,.int .i64 dn,.int .i64 ji] 130)).alloc (.cells (boxS s A n c) 24)):=((But.refl No w).alloc _).alloc _
 obtain⟨bt,ot,A4,c4,rfl,t0,t1,t2,t3,_,_⟩:=(hs.ts.no hb0).at1 ht
 have e0:=((Blk.new w #[.int .i64 co,.int .i64 bu,.int .i64 de,.int .i64 pr,.bool ti,.int .i64 (i:Int),.int .i64 (k:Int),.bool la,.int .i64 dn,.int .i64 ji] 130).alloc (.cells (boxS s (some ⟨bt,ot,none⟩) n c) 24))
 have HB0:=hid hb0
 clear hb0 e0
 unfold boxS at HB0 t0 t1 t2 t3
 unfold sysV
 clear hs ht
 generalize t.secs.length=m at t3 HV
 by_cases h1:(8:Int)≤(k:Int)
 ·have q1:=decide_eq_true h1
  have hv:=ret_bool (show false=V by rw[←HV.out];simp[h1])
  have HB:=hid (HB0.out.alloc (.cells #[.int .i64 t.p,.int .i64 t.d,.int .i64 t.w,.slice A4 m c4] 97))
  have HVV:=hid hv
  clear hv HV HB0 CB
  try clear h7
  try clear h6
  try clear h5
  go_enter Tryz.func94,Tryz.ntmps94
  go_wp2
  go_ret
  exact⟨HVV.out,HB.out⟩
 have q1:=decide_eq_false h1
 by_cases h2:co<0
 ·have q2:=decide_eq_true h2
  have hv:=ret_bool (show false=V by rw[←HV.out];simp[h2])
  have HB:=hid (HB0.out.alloc (.cells #[.int .i64 t.p,.int .i64 t.d,.int .i64 t.w,.slice A4 m c4] 97))
  have HVV:=hid hv
  clear hv HV HB0 CB
  try clear h7
  try clear h6
  try clear h5
  go_enter Tryz.func94,Tryz.ntmps94
  go_wp2
  go_ret
  exact⟨HVV.out,HB.out⟩
 have q2:=decide_eq_false h2
 by_cases h3:s.co≤co
 ·have q3:=decide_eq_true h3
  have hv:=ret_bool (show false=V by rw[←HV.out];simp[h3])
  have HB:=hid (HB0.out.alloc (.cells #[.int .i64 t.p,.int .i64 t.d,.int .i64 t.w,.slice A4 m c4] 97))
  have HVV:=hid hv
  clear hv HV HB0 CB
  try clear h7
  try clear h6
  try clear h5
  go_enter Tryz.func94,Tryz.ntmps94
  go_wp2
  go_ret
  exact⟨HVV.out,HB.out⟩
 have q3:=decide_eq_false h3
 by_cases h4:bu<1
 ·have q4:=decide_eq_true h4
  have hv:=ret_bool (show false=V by rw[←HV.out];simp[h4])
  have HB:=hid (HB0.out.alloc (.cells #[.int .i64 t.p,.int .i64 t.d,.int .i64 t.w,.slice A4 m c4] 97))
  have HVV:=hid hv
  clear hv HV HB0 CB
  try clear h7
  try clear h6
  try clear h5
  go_enter Tryz.func94,Tryz.ntmps94
  go_wp2
  go_ret
  exact⟨HVV.out,HB.out⟩
 have q4:=decide_eq_false h4
 cases ti with
 | true =>
  by_cases h5:bu<rest
  ·have q5:=decide_eq_true h5
   by_cases h6:de=bu
   ·have q6:(de == bu)=true:=by simp[h6]
    by_cases h7:m=0
    ·have q7:((m:Int) == 0)=true:=by simp[h7]
     have hv:=ret_bool (show true=V by rw[←HV.out];simp[h1,h2,h3,h4,h5,h6,h7])
     have HB:=hid (HB0.out.alloc (.cells #[.int .i64 t.p,.int .i64 t.d,.int .i64 t.w,.slice A4 m c4] 97))
     have HVV:=hid hv
     clear hv HV HB0 CB
     try clear h7
     try clear h6
     try clear h5
     go_enter Tryz.func94,Tryz.ntmps94
     go_wp2
     go_ret
     exact⟨HVV.out,HB.out⟩
    ·have q7:((m:Int) == 0)=false:=by rw[beq_eq_false_iff_ne];omega
     have hv:=ret_bool (show false=V by rw[←HV.out];simp[h7])
     have HB:=hid (HB0.out.alloc (.cells #[.int .i64 t.p,.int .i64 t.d,.int .i64 t.w,.slice A4 m c4] 97))
     have HVV:=hid hv
     clear hv HV HB0 CB
     try clear h7
     try clear h6
     try clear h5
     go_enter Tryz.func94,Tryz.ntmps94
     go_wp2
     go_ret
     exact⟨HVV.out,HB.out⟩
   ·have q6:(de == bu)=false:=by simp[h6]
    have hv:=ret_bool (show false=V by rw[←HV.out];simp[h6])
    have HB:=hid (HB0.out.alloc (.cells #[.int .i64 t.p,.int .i64 t.d,.int .i64 t.w,.slice A4 m c4] 97))
    have HVV:=hid hv
    clear hv HV HB0 CB
    try clear h7
    try clear h6
    try clear h5
    go_enter Tryz.func94,Tryz.ntmps94
    go_wp2
    go_ret
    exact⟨HVV.out,HB.out⟩
  ·have q5:=decide_eq_false h5
   have hv:=ret_bool (show false=V by rw[←HV.out];simp[h5])
   have HB:=hid (HB0.out.alloc (.cells #[.int .i64 t.p,.int .i64 t.d,.int .i64 t.w,.slice A4 m c4] 97))
   have HVV:=hid hv
   clear hv HV HB0 CB
   try clear h7
   try clear h6
   try clear h5
   go_enter Tryz.func94,Tryz.ntmps94
   go_wp2
   go_ret
   exact⟨HVV.out,HB.out⟩
 | false =>
  cases la with
  | false =>
  have hv:=ret_bool (show false=V by rw[←HV.out];simp[])
  have HVV:=hid hv
  clear hv HV
  obtain⟨W,hWX⟩:∃ W,((w.alloc (.cells #[.int .i64 co,.int .i64 bu,.int .i64 de,.int .i64 pr,.bool false,.int .i64 (i:Int),.int .i64 (k:Int),.bool false,.int .i64 dn,.int .i64 ji] 130)).alloc (.cells #[.int .i64 s.co,.int .i64 s.po,.int .i64 s.pr,.int .i64 s.re,.int .i64 s.sw,.int .i64 s.fi,.int .i64 s.la,.int .i64 s.rs,.slice (some ⟨bt,ot,none⟩) n c] 24)).alloc (.cells #[.int .i64 t.p,.int .i64 t.d,.int .i64 t.w,.slice A4 m c4] 97)=W:=⟨_,rfl⟩
  have HWX:=hid hWX
  have HB:Hid (But No w W):=hid (by rw[←hWX];exact HB0.out.alloc _)
  have hP:Blk W w.heap.size #[.int .i64 co,.int .i64 bu,.int .i64 de,.int .i64 pr,.bool false,.int .i64 (i:Int),.int .i64 (k:Int),.bool false,.int .i64 dn,.int .i64 ji] 130:=by rw[←hWX];exact((Blk.new w _ _).alloc _).alloc _
  have hT:Blk W (w.heap.size+1+1) #[.int .i64 t.p,.int .i64 t.d,.int .i64 t.w,.slice A4 m c4] 97:=by
   rw[←hWX]
   have:=blk2 (w.alloc (.cells #[.int .i64 co,.int .i64 bu,.int .i64 de,.int .i64 pr,.bool false,.int .i64 (i:Int),.int .i64 (k:Int),.bool false,.int .i64 dn,.int .i64 ji] 130)) (.cells #[.int .i64 s.co,.int .i64 s.po,.int .i64 s.pr,.int .i64 s.re,.int .i64 s.sw,.int .i64 s.fi,.int .i64 s.la,.int .i64 s.rs,.slice (some ⟨bt,ot,none⟩) n c] 24) #[.int .i64 t.p,.int .i64 t.d,.int .i64 t.w,.slice A4 m c4] 97
   rw[size_alloc1] at this;exact this
  have y0:=cell_regrown (hP.cell (o:=0) rfl)
  have y1:=cell_regrown (hP.cell (o:=1) rfl)
  have y2:=cell_regrown (hP.cell (o:=2) rfl)
  have y3:=cell_regrown (hP.cell (o:=3) rfl)
  have y4:=cell_regrown (hP.cell (o:=4) rfl)
  have y5:=cell_regrown (hP.cell (o:=5) rfl)
  have y6:=cell_regrown (hP.cell (o:=6) rfl)
  have y7:=cell_regrown (hP.cell (o:=7) rfl)
  have y8:=cell_regrown (hP.cell (o:=8) rfl)
  have y9:=cell_regrown (hP.cell (o:=9) rfl)
  have z1:=cell_regrown (hT.cell (o:=1) rfl)
  have CC:=hid (calls_but (w:=W) (fun W' _=>CB.out W'))
  clear hWX hP hT CB HB0
  try clear h7
  try clear h6
  try clear h5
  go_enter Tryz.func94,Tryz.ntmps94
  go_wp2
  rw[HWX.out]
  refine wp_region_quiet_below (by kernel_rfl) (by kernel_rfl) ?_
  repeat (go_big_quiet_step ((go_at_call 113;exact CC.out _ _)))
  refine wpQuiet_nil ?_
  intro _ hw'
  obtain⟨⟨dq,osq⟩,hw''⟩:=hw'
  subst hw''
  go_wp2
  go_ret
  exact⟨HVV.out,HB.out.trans (regrown_but dq osq)⟩
  | true =>
   by_cases h5:bu=rest
   ·have q5:(bu == rest)=true:=by simp[h5]
    by_cases h6:de=dl
    ·have q6:(de == dl)=true:=by simp[h6]
     by_cases h7:1≤de
     ·have q7:=decide_eq_true h7
      have hv:=ret_bool (show true=V by rw[←HV.out];simp[h1,h2,h3,h5,h6];omega)
      have HVV:=hid hv
      clear hv HV
      obtain⟨W,hWX⟩:∃ W,((w.alloc (.cells #[.int .i64 co,.int .i64 bu,.int .i64 de,.int .i64 pr,.bool false,.int .i64 (i:Int),.int .i64 (k:Int),.bool true,.int .i64 dn,.int .i64 ji] 130)).alloc (.cells #[.int .i64 s.co,.int .i64 s.po,.int .i64 s.pr,.int .i64 s.re,.int .i64 s.sw,.int .i64 s.fi,.int .i64 s.la,.int .i64 s.rs,.slice (some ⟨bt,ot,none⟩) n c] 24)).alloc (.cells #[.int .i64 t.p,.int .i64 t.d,.int .i64 t.w,.slice A4 m c4] 97)=W:=⟨_,rfl⟩
      have HWX:=hid hWX
      have HB:Hid (But No w W):=hid (by rw[←hWX];exact HB0.out.alloc _)
      have hP:Blk W w.heap.size #[.int .i64 co,.int .i64 bu,.int .i64 de,.int .i64 pr,.bool false,.int .i64 (i:Int),.int .i64 (k:Int),.bool true,.int .i64 dn,.int .i64 ji] 130:=by rw[←hWX];exact((Blk.new w _ _).alloc _).alloc _
      have hT:Blk W (w.heap.size+1+1) #[.int .i64 t.p,.int .i64 t.d,.int .i64 t.w,.slice A4 m c4] 97:=by
       rw[←hWX]
       have:=blk2 (w.alloc (.cells #[.int .i64 co,.int .i64 bu,.int .i64 de,.int .i64 pr,.bool false,.int .i64 (i:Int),.int .i64 (k:Int),.bool true,.int .i64 dn,.int .i64 ji] 130)) (.cells #[.int .i64 s.co,.int .i64 s.po,.int .i64 s.pr,.int .i64 s.re,.int .i64 s.sw,.int .i64 s.fi,.int .i64 s.la,.int .i64 s.rs,.slice (some ⟨bt,ot,none⟩) n c] 24) #[.int .i64 t.p,.int .i64 t.d,.int .i64 t.w,.slice A4 m c4] 97
       rw[size_alloc1] at this;exact this
      have y0:=cell_regrown (hP.cell (o:=0) rfl)
      have y1:=cell_regrown (hP.cell (o:=1) rfl)
      have y2:=cell_regrown (hP.cell (o:=2) rfl)
      have y3:=cell_regrown (hP.cell (o:=3) rfl)
      have y4:=cell_regrown (hP.cell (o:=4) rfl)
      have y5:=cell_regrown (hP.cell (o:=5) rfl)
      have y6:=cell_regrown (hP.cell (o:=6) rfl)
      have y7:=cell_regrown (hP.cell (o:=7) rfl)
      have y8:=cell_regrown (hP.cell (o:=8) rfl)
      have y9:=cell_regrown (hP.cell (o:=9) rfl)
      have z1:=cell_regrown (hT.cell (o:=1) rfl)
      have CC:=hid (calls_but (w:=W) (fun W' _=>CB.out W'))
      clear hWX hP hT CB HB0
      try clear h7
      try clear h6
      try clear h5
      go_enter Tryz.func94,Tryz.ntmps94
      go_wp2
      rw[HWX.out]
      refine wp_region_quiet_below (by kernel_rfl) (by kernel_rfl) ?_
      repeat (go_big_quiet_step ((go_at_call 113;exact CC.out _ _)))
      refine wpQuiet_nil ?_
      intro _ hw'
      obtain⟨⟨dq,osq⟩,hw''⟩:=hw'
      subst hw''
      go_wp2
      go_ret
      exact⟨HVV.out,HB.out.trans (regrown_but dq osq)⟩
     ·have q7:=decide_eq_false h7
      have hv:=ret_bool (show false=V by rw[←HV.out];simp[h7])
      have HVV:=hid hv
      clear hv HV
      obtain⟨W,hWX⟩:∃ W,((w.alloc (.cells #[.int .i64 co,.int .i64 bu,.int .i64 de,.int .i64 pr,.bool false,.int .i64 (i:Int),.int .i64 (k:Int),.bool true,.int .i64 dn,.int .i64 ji] 130)).alloc (.cells #[.int .i64 s.co,.int .i64 s.po,.int .i64 s.pr,.int .i64 s.re,.int .i64 s.sw,.int .i64 s.fi,.int .i64 s.la,.int .i64 s.rs,.slice (some ⟨bt,ot,none⟩) n c] 24)).alloc (.cells #[.int .i64 t.p,.int .i64 t.d,.int .i64 t.w,.slice A4 m c4] 97)=W:=⟨_,rfl⟩
      have HWX:=hid hWX
      have HB:Hid (But No w W):=hid (by rw[←hWX];exact HB0.out.alloc _)
      have hP:Blk W w.heap.size #[.int .i64 co,.int .i64 bu,.int .i64 de,.int .i64 pr,.bool false,.int .i64 (i:Int),.int .i64 (k:Int),.bool true,.int .i64 dn,.int .i64 ji] 130:=by rw[←hWX];exact((Blk.new w _ _).alloc _).alloc _
      have hT:Blk W (w.heap.size+1+1) #[.int .i64 t.p,.int .i64 t.d,.int .i64 t.w,.slice A4 m c4] 97:=by
       rw[←hWX]
       have:=blk2 (w.alloc (.cells #[.int .i64 co,.int .i64 bu,.int .i64 de,.int .i64 pr,.bool false,.int .i64 (i:Int),.int .i64 (k:Int),.bool true,.int .i64 dn,.int .i64 ji] 130)) (.cells #[.int .i64 s.co,.int .i64 s.po,.int .i64 s.pr,.int .i64 s.re,.int .i64 s.sw,.int .i64 s.fi,.int .i64 s.la,.int .i64 s.rs,.slice (some ⟨bt,ot,none⟩) n c] 24) #[.int .i64 t.p,.int .i64 t.d,.int .i64 t.w,.slice A4 m c4] 97
       rw[size_alloc1] at this;exact this
      have y0:=cell_regrown (hP.cell (o:=0) rfl)
      have y1:=cell_regrown (hP.cell (o:=1) rfl)
      have y2:=cell_regrown (hP.cell (o:=2) rfl)
      have y3:=cell_regrown (hP.cell (o:=3) rfl)
      have y4:=cell_regrown (hP.cell (o:=4) rfl)
      have y5:=cell_regrown (hP.cell (o:=5) rfl)
      have y6:=cell_regrown (hP.cell (o:=6) rfl)
      have y7:=cell_regrown (hP.cell (o:=7) rfl)
      have y8:=cell_regrown (hP.cell (o:=8) rfl)
      have y9:=cell_regrown (hP.cell (o:=9) rfl)
      have z1:=cell_regrown (hT.cell (o:=1) rfl)
      have CC:=hid (calls_but (w:=W) (fun W' _=>CB.out W'))
      clear hWX hP hT CB HB0
      try clear h7
      try clear h6
      try clear h5
      go_enter Tryz.func94,Tryz.ntmps94
      go_wp2
      rw[HWX.out]
      refine wp_region_quiet_below (by kernel_rfl) (by kernel_rfl) ?_
      repeat (go_big_quiet_step ((go_at_call 113;exact CC.out _ _)))
      refine wpQuiet_nil ?_
      intro _ hw'
      obtain⟨⟨dq,osq⟩,hw''⟩:=hw'
      subst hw''
      go_wp2
      go_ret
      exact⟨HVV.out,HB.out.trans (regrown_but dq osq)⟩
    ·have q6:(de == dl)=false:=by simp[h6]
     have hv:=ret_bool (show false=V by rw[←HV.out];simp[h6])
     have HVV:=hid hv
     clear hv HV
     obtain⟨W,hWX⟩:∃ W,((w.alloc (.cells #[.int .i64 co,.int .i64 bu,.int .i64 de,.int .i64 pr,.bool false,.int .i64 (i:Int),.int .i64 (k:Int),.bool true,.int .i64 dn,.int .i64 ji] 130)).alloc (.cells #[.int .i64 s.co,.int .i64 s.po,.int .i64 s.pr,.int .i64 s.re,.int .i64 s.sw,.int .i64 s.fi,.int .i64 s.la,.int .i64 s.rs,.slice (some ⟨bt,ot,none⟩) n c] 24)).alloc (.cells #[.int .i64 t.p,.int .i64 t.d,.int .i64 t.w,.slice A4 m c4] 97)=W:=⟨_,rfl⟩
     have HWX:=hid hWX
     have HB:Hid (But No w W):=hid (by rw[←hWX];exact HB0.out.alloc _)
     have hP:Blk W w.heap.size #[.int .i64 co,.int .i64 bu,.int .i64 de,.int .i64 pr,.bool false,.int .i64 (i:Int),.int .i64 (k:Int),.bool true,.int .i64 dn,.int .i64 ji] 130:=by rw[←hWX];exact((Blk.new w _ _).alloc _).alloc _
     have hT:Blk W (w.heap.size+1+1) #[.int .i64 t.p,.int .i64 t.d,.int .i64 t.w,.slice A4 m c4] 97:=by
      rw[←hWX]
      have:=blk2 (w.alloc (.cells #[.int .i64 co,.int .i64 bu,.int .i64 de,.int .i64 pr,.bool false,.int .i64 (i:Int),.int .i64 (k:Int),.bool true,.int .i64 dn,.int .i64 ji] 130)) (.cells #[.int .i64 s.co,.int .i64 s.po,.int .i64 s.pr,.int .i64 s.re,.int .i64 s.sw,.int .i64 s.fi,.int .i64 s.la,.int .i64 s.rs,.slice (some ⟨bt,ot,none⟩) n c] 24) #[.int .i64 t.p,.int .i64 t.d,.int .i64 t.w,.slice A4 m c4] 97
      rw[size_alloc1] at this;exact this
     have y0:=cell_regrown (hP.cell (o:=0) rfl)
     have y1:=cell_regrown (hP.cell (o:=1) rfl)
     have y2:=cell_regrown (hP.cell (o:=2) rfl)
     have y3:=cell_regrown (hP.cell (o:=3) rfl)
     have y4:=cell_regrown (hP.cell (o:=4) rfl)
     have y5:=cell_regrown (hP.cell (o:=5) rfl)
     have y6:=cell_regrown (hP.cell (o:=6) rfl)
     have y7:=cell_regrown (hP.cell (o:=7) rfl)
     have y8:=cell_regrown (hP.cell (o:=8) rfl)
     have y9:=cell_regrown (hP.cell (o:=9) rfl)
     have z1:=cell_regrown (hT.cell (o:=1) rfl)
     have CC:=hid (calls_but (w:=W) (fun W' _=>CB.out W'))
     clear hWX hP hT CB HB0
     try clear h7
     try clear h6
     try clear h5
     go_enter Tryz.func94,Tryz.ntmps94
     go_wp2
     rw[HWX.out]
     refine wp_region_quiet_below (by kernel_rfl) (by kernel_rfl) ?_
     repeat (go_big_quiet_step ((go_at_call 113;exact CC.out _ _)))
     refine wpQuiet_nil ?_
     intro _ hw'
     obtain⟨⟨dq,osq⟩,hw''⟩:=hw'
     subst hw''
     go_wp2
     go_ret
     exact⟨HVV.out,HB.out.trans (regrown_but dq osq)⟩
   ·have q5:(bu == rest)=false:=by simp[h5]
    have hv:=ret_bool (show false=V by rw[←HV.out];simp[h5])
    have HVV:=hid hv
    clear hv HV
    obtain⟨W,hWX⟩:∃ W,((w.alloc (.cells #[.int .i64 co,.int .i64 bu,.int .i64 de,.int .i64 pr,.bool false,.int .i64 (i:Int),.int .i64 (k:Int),.bool true,.int .i64 dn,.int .i64 ji] 130)).alloc (.cells #[.int .i64 s.co,.int .i64 s.po,.int .i64 s.pr,.int .i64 s.re,.int .i64 s.sw,.int .i64 s.fi,.int .i64 s.la,.int .i64 s.rs,.slice (some ⟨bt,ot,none⟩) n c] 24)).alloc (.cells #[.int .i64 t.p,.int .i64 t.d,.int .i64 t.w,.slice A4 m c4] 97)=W:=⟨_,rfl⟩
    have HWX:=hid hWX
    have HB:Hid (But No w W):=hid (by rw[←hWX];exact HB0.out.alloc _)
    have hP:Blk W w.heap.size #[.int .i64 co,.int .i64 bu,.int .i64 de,.int .i64 pr,.bool false,.int .i64 (i:Int),.int .i64 (k:Int),.bool true,.int .i64 dn,.int .i64 ji] 130:=by rw[←hWX];exact((Blk.new w _ _).alloc _).alloc _
    have hT:Blk W (w.heap.size+1+1) #[.int .i64 t.p,.int .i64 t.d,.int .i64 t.w,.slice A4 m c4] 97:=by
     rw[←hWX]
     have:=blk2 (w.alloc (.cells #[.int .i64 co,.int .i64 bu,.int .i64 de,.int .i64 pr,.bool false,.int .i64 (i:Int),.int .i64 (k:Int),.bool true,.int .i64 dn,.int .i64 ji] 130)) (.cells #[.int .i64 s.co,.int .i64 s.po,.int .i64 s.pr,.int .i64 s.re,.int .i64 s.sw,.int .i64 s.fi,.int .i64 s.la,.int .i64 s.rs,.slice (some ⟨bt,ot,none⟩) n c] 24) #[.int .i64 t.p,.int .i64 t.d,.int .i64 t.w,.slice A4 m c4] 97
     rw[size_alloc1] at this;exact this
    have y0:=cell_regrown (hP.cell (o:=0) rfl)
    have y1:=cell_regrown (hP.cell (o:=1) rfl)
    have y2:=cell_regrown (hP.cell (o:=2) rfl)
    have y3:=cell_regrown (hP.cell (o:=3) rfl)
    have y4:=cell_regrown (hP.cell (o:=4) rfl)
    have y5:=cell_regrown (hP.cell (o:=5) rfl)
    have y6:=cell_regrown (hP.cell (o:=6) rfl)
    have y7:=cell_regrown (hP.cell (o:=7) rfl)
    have y8:=cell_regrown (hP.cell (o:=8) rfl)
    have y9:=cell_regrown (hP.cell (o:=9) rfl)
    have z1:=cell_regrown (hT.cell (o:=1) rfl)
    have CC:=hid (calls_but (w:=W) (fun W' _=>CB.out W'))
    clear hWX hP hT CB HB0
    try clear h7
    try clear h6
    try clear h5
    go_enter Tryz.func94,Tryz.ntmps94
    go_wp2
    rw[HWX.out]
    refine wp_region_quiet_below (by kernel_rfl) (by kernel_rfl) ?_
    repeat (go_big_quiet_step ((go_at_call 113;exact CC.out _ _)))
    refine wpQuiet_nil ?_
    intro _ hw'
    obtain⟨⟨dq,osq⟩,hw''⟩:=hw'
    subst hw''
    go_wp2
    go_ret
    exact⟨HVV.out,HB.out.trans (regrown_but dq osq)⟩
end Go.Proofs.YtikcigjbhohboaaGreat.pln
end
section
namespace Go.Proofs.YtikcigjbhohboaaGreat.pln
open Go.ChangeShapes Go.WideShapes Go.ChangeAt Go.RowKit Go.Deep Go.Shelf Go.Sort
def NP (Q:Exit→Act→World→Prop):Exit→Act→World→Prop:=fun e a w=>e=.normal∧Q .normal a w
theorem np_out (Q:Exit→Act→World→Prop):¬LetsOut (NP Q):=fun ⟨_,_,h,_⟩=>by cases h
def notDefer : Op→Bool
 | .defer _=>false
 | _=>true
def noDefer (ops:Array Oper):Bool:=ops.all fun o=>notDefer o.op
theorem noDefer_at {ops:Array Oper} (h:noDefer ops=true) {i:Nat} {o:Oper} (ho:ops[i]? = some o):∀ c,o.op≠.defer c:=by
 intro c e
 unfold noDefer at h
 rw[Array.all_eq_true] at h
 obtain⟨hi,he⟩:=Array.getElem?_eq_some_iff.1 ho
 have:=h i hi
 rw[he,e] at this
 cases this
theorem rows_round {l n:Nat} {P:Program} {row:String} {args:Array Value} {w:World} {R:Value→World→Prop} (h:Rows P row args w R):RowsIn (Fence.wide.inRound l) n P row args w R:=fun c cs _=>by
 obtain⟨v,w',r,s⟩:=h c cs
 exact⟨v,w',r,stepsIn_wide.2 s⟩
theorem wp_round {l n:Nat} {P:Program} {o:Oper} {a:Act} {w:World} {K K':Act→World→Prop} {Q:Exit→Act→World→Prop} (hd:∀ c,o.op≠.defer c) (hK:∀ a w,K a w→K' a w) (h:o.wp P a w K Q):o.wpIn (Fence.wide.inRound l) n P a w K' Q:=by
 unfold Oper.wp at h
 unfold Oper.wpIn
 refine⟨fun _ _=>trivial,?_⟩
 rw[show (Fence.wide.inRound l).round=some l from rfl,Oper.semAt_some l a.eval o hd]
 generalize (execOp a.eval o).run P w=r at h ⊢
 cases r with
 | ok x w' =>
  cases x <;> simp only[Oper.upon,Oper.uponIn] at h ⊢
  all_goals first
   | exact hK _ _ h
   | exact⟨fun h9=>by simp[Fence.wide] at h9,(callsIn_wide.2 (h.mono (fun e w'' he=>by cases e <;> first | exact hK _ _ he | exact he))).inRound l⟩
   | exact⟨fun h9=>by simp[Fence.wide] at h9,rows_round (h.mono (fun _ _ he=>hK _ _ he))⟩
 | halt x w'=>cases x <;> simp only[Oper.upon,Oper.uponIn] at h ⊢ <;> exact h
theorem any_round {l n:Nat} {P:Program} {md:Region.Mode} {ops:Array Oper} {Q:Exit→Act→World→Prop} (hd:noDefer ops=true) (hQ:¬LetsOut Q):∀ (fuel:Nat) (listed:Array Bool) (a:Act) (w:World),wpAny P md ops Q fuel listed a w→wpAnyIn (Fence.wide.inRound l) n P md ops Q fuel listed a w
 | 0,_,_,_,h=>h
 | fuel+1,listed,a,w,h=>by
  refine⟨h.1,fun i hi=>?_⟩
  have h2:=h.2 i hi
  unfold wpOp at h2
  unfold wpOpIn
  cases ho:ops[i]? with
  | none=>(rw[ho] at h2;exact any_round hd hQ fuel _ _ _ h2)
  | some o =>
   rw[ho] at h2
   dsimp only at h2 ⊢
   split
   ·rename_i hw
    rw[if_pos hw] at h2
    rcases h2 with h2 | ⟨_,h2⟩
    ·exact wp_round (noDefer_at hd ho) (fun a w hk=>any_round hd hQ fuel _ _ _ hk) h2
    ·exact absurd h2 hQ
   ·rename_i hw
    rw[if_neg hw] at h2
    exact⟨fun _ _=>trivial,any_round hd hQ fuel _ _ _ h2⟩
theorem np_imp {Q:Exit→Act→World→Prop}:∀ (e:Exit) (a:Act) (w:World),NP Q e a w→Q e a w:=fun e a w h=>by
 obtain⟨rfl,h⟩:=h
 exact h
theorem region_round {l n id:Nat} {P:Program} {ops:Array Oper} {Q:Exit→Act→World→Prop} {a:Act} {w:World} (hm:P.follows .mixedOrders=true) (hd:noDefer ops=true)
  (h:wpAny P .any ops (NP Q) ops.size (Array.replicate ops.size false) a w.drew):(Code.region id ops true).wpIn (Fence.wide.inRound l) n P Q a w :=
 Go.wpIn_mono (wpIn_region_any hm (any_round hd (np_out Q) _ _ _ _ h)) np_imp
theorem region_round_held {l n id:Nat} {P:Program} {ops:Array Oper} {S:World→Prop} {Q:Exit→Act→World→Prop} {a:Act} {w:World} (hm:P.follows .mixedOrders=true) (hd:noDefer ops=true) (hS:S w.drew)
  (h:S w.drew→wpAnyH P .any ops (NP Q) S ops.size (Array.replicate ops.size false) a w.drew):(Code.region id ops true).wpIn (Fence.wide.inRound l) n P Q a w :=
 region_round hm hd (wpAny_of_held _ _ _ _ (h hS))
end Go.Proofs.YtikcigjbhohboaaGreat.pln
end
section
namespace Go.Proofs.YtikcigjbhohboaaGreat.pln
open Go.Lib (hid)
open Go.ChangeShapes Go.WideShapes Go.ChangeAt Go.RowKit Go.Deep val ter Go.Sort
structure LY (w0 w:World) (s:Sys) (A:Option Addr) (n c m b K:Nat) (F:Int→Int→Option Pt) (f:Nat→Int):Prop where
 sys:RSys w0 A n c s
 but:But No w0 w
 map:MP w m K F
 whr:Vals w b 3 n (fun j=>.int .i64 (f j))
 nm:w0.heap.size≤m
 nb:w0.heap.size≤b
 fin:∀ j,inR (f j)
section
variable {w0 w w':World} {s:Sys} {A:Option Addr} {n c m b K:Nat} {F:Int→Int→Option Pt} {f:Nat→Int}
theorem LY.turn {S:Nat→Prop} (h:LY w0 w s A n c m b K F f) (hb:But S w w') (hS:∀ k,k<w.heap.size→S k→w0.heap.size≤k∧k≠m∧k≠b):LY w0 w' s A n c m b K F f :=
 ⟨h.sys,h.but.andThen' hb (fun k hk e=>(hS k hk e).1),h.map.but hb (fun e=>(hS m h.map.lt e).2.1 rfl),h.whr.but hb (fun e=>(hS b h.whr.lt e).2.2 rfl),h.nm,h.nb,h.fin⟩
theorem LY.no (h:LY w0 w s A n c m b K F f) (hb:But No w w'):LY w0 w' s A n c m b K F f:=h.turn hb (fun _ _ e=>e.elim)
theorem LY.cur (h:LY w0 w s A n c m b K F f):RSys w A n c s:=h.sys.no h.but
theorem LY.len (h:LY w0 w s A n c m b K F f):s.ts.length=n:=h.sys.ts.len
theorem LY.rd (h:LY w0 w s A n c m b K F f) (hn:n≤24):Rd w (some ⟨b,0,none⟩) n ((List.range n).map f) :=
 ⟨by simp,by omega,fun _=>⟨b,0,rfl,h.whr.lt,fun k hk=>by rw[Nat.zero_add];have:=h.whr.cell hk;simpa [List.getD,hk] using this⟩,fun k=>by
  by_cases hk:k<n
  ·simp[List.getD,hk];exact h.fin k
  ·simp[List.getD,hk,inR]⟩
theorem LY.ne (h:LY w0 w s A n c m b K F f):b≠m:=h.map.ne h.whr
end
abbrev L11 (w:World) (q:Nat) (s:Sys) (A:Option Addr) (n c m b:Nat):Prop:=S9 w q s A n c∧w.cell? ⟨q,9,none⟩=some (.map (some m))∧w.cell? ⟨q,10,none⟩=some (.slice (some ⟨b,0,none⟩) n n)
theorem ly_cells {w:World} {q:Nat} {s:Sys} {A:Option Addr} {n c m b:Nat} (h:Blk w q (lyA s A n c m b) 123):L11 w q s A n c m b :=
 ⟨⟨h.cell (o:=0) rfl,h.cell (o:=1) rfl,h.cell (o:=2) rfl,h.cell (o:=3) rfl,h.cell (o:=4) rfl,h.cell (o:=5) rfl,h.cell (o:=6) rfl,h.cell (o:=7) rfl,h.cell (o:=8) rfl⟩,h.cell (o:=9) rfl,h.cell (o:=10) rfl⟩
set_option maxRecDepth 100000 in
set_option maxHeartbeats 2000000 in
theorem sects_any {w0:World} {s:Sys} {A:Option Addr} {n c m b:Nat} (hs:RSys w0 A n c s) (x:Pt) {t:Tsk} (ht:s.ts[x.i]? = some t) :
  ∃ A4 c4,t.secs.length≤c4∧RSec w0 A4 t.secs.length t.secs∧∀ W,But No w0 W→Calls Tryz.prog 103 #[lyV s A n c m b,ptV x] W fun e w'=>e=.returned (.slice A4 t.secs.length c4)∧But No W w':=by
 obtain⟨bt,ot,A4,c4,rfl,t0,t1,t2,t3,hc4,hsec⟩:=hs.ts.at1 ht
 refine⟨A4,c4,hc4,hsec,fun W hW=>?_⟩
 have hin:(x.i:Int)<(n:Int):=by have:=(List.getElem?_eq_some_iff.1 ht).1;have:=hs.ts.len;omega
 have hi0:(0:Int)≤(x.i:Int):=Int.natCast_nonneg _
 have hb0:But No W ((W.alloc (.cells (lyA s (some ⟨bt,ot,none⟩) n c m b) 123)).alloc (.cells (ptA x) 130)):=((But.refl No W).alloc _).alloc _
 have g3:=cell_keep t3 (hW.trans hb0)
 have HB0:=hid hb0
 clear hb0 t0 t1 t2 t3 hsec hs ht hW
 obtain⟨⟨co,bu,de,pr,ti⟩,i,k,la,dn,ji⟩:=x
 dsimp only[ptV,ptA,lyV,lyA] at g3 HB0 hin hi0 ⊢
 go_enter Tryz.func103,Tryz.ntmps103
 go_wp2
 go_ret
 exact⟨rfl,HB0.out⟩
def ownP (s:Sys) (wh:List Int) (x:Pt):Int:=x.p.bu+s.fi+2*s.sw+(if whB x=true then extraV s wh (x.i:Int) else 0)
set_option maxRecDepth 100000 in
set_option maxHeartbeats 4000000 in
theorem lown_any {w0 w:World} {s:Sys} {A:Option Addr} {n c m b K:Nat} {F:Int→Int→Option Pt} {f:Nat→Int} (h:LY w0 w s A n c m b K F f) (hr:right s=true) (hn:n≤24) (x:Pt) (hx:0≤x.p.bu∧x.p.bu≤1099511627776) :
  Calls Tryz.prog 130 #[lyV s A n c m b,ptV x] w fun e w'=>e=.returned (.int .i64 (ownP s ((List.range n).map f) x))∧But No w w':=by
 have hb0:But No w ((w.alloc (.cells (lyA s A n c m b) 123)).alloc (.cells (ptA x) 130)):=((But.refl No w).alloc _).alloc _
 have CW:Hid (∀ W,Calls Tryz.prog 114 #[ptV x] W fun e w'=>e=.returned (.bool (whB x))∧But No W w'):=hid (fun W=>whole_any x W)
 have CE:Hid (∀ W,But No w W→Calls Tryz.prog 151 #[sysV s A n c,.slice (some ⟨b,0,none⟩) n n,.int .i64 (x.i:Int)] W fun e w'=>e=.returned (.int .i64 (extraV s ((List.range n).map f) (x.i:Int)))∧But No W w') :=
  hid (fun W hW=>extra_any s A n c (some ⟨b,0,none⟩) n n _ (x.i:Int) W (h.no hW).cur ((h.no hW).rd hn))
 have hE:=extra_bd hr ((List.range n).map f) (x.i:Int)
 have hV:ownP s ((List.range n).map f) x=x.p.bu+s.fi+2*s.sw+(if whB x=true then extraV s ((List.range n).map f) (x.i:Int) else 0):=rfl
 obtain⟨⟨r0,r1⟩,⟨s0,s1⟩,f0,f1⟩:=right_costs hr
 rw[hV]
 generalize extraV s ((List.range n).map f) (x.i:Int)=E at CE hE ⊢
 have HL:Hid (∀ W,But No ((w.alloc (.cells (lyA s A n c m b) 123)).alloc (.cells (ptA x) 130)) W→L11 W w.heap.size s A n c m b∧Cl W (w.heap.size+1) 0 x):=hid (fun W hW=>⟨ly_cells (((Blk.new w _ _).alloc _).but hW (fun f=>f)),Blk.cl ((blk2 w _ _ _).but hW (fun f=>f))⟩)
 have HB0:=hid hb0
 clear hb0 hV h
 cases hw:whB x with
 | false =>
  rw[hw] at CW
  simp only[Bool.false_eq_true,if_false,Int.add_zero]
  obtain⟨⟨co,bu,de,pr,ti⟩,i,k,la,dn,ji⟩:=x
  clear hw
  dsimp only[ptV,ptA,lyV,lyA,sysV] at HB0 CW CE HL hx ⊢
  go_enter Tryz.func130,Tryz.ntmps130
  go_wp2_with (go_at_call 114;(with_reducible refine(CW.out _).mono ?_);rintro e w1 ⟨rfl,h1⟩;have H1:=hid h1;clear h1)
  go_ret
  exact⟨rfl,HB0.out.trans H1.out⟩
 | true =>
  rw[hw] at CW
  simp only[if_true]
  obtain⟨⟨co,bu,de,pr,ti⟩,i,k,la,dn,ji⟩:=x
  clear hw
  dsimp only[ptV,ptA,lyV,lyA,sysV] at HB0 CW CE HL hx ⊢
  go_enter Tryz.func130,Tryz.ntmps130
  go_wp2_with (first | (go_at_call 114;(with_reducible refine(CW.out _).mono ?_);rintro e w1 ⟨rfl,h1⟩;obtain⟨⟨⟨c0,c1,c2,c3,c4,c5,c6,c7,c8⟩,c9,c10⟩,hq⟩:=HL.out _ h1;have d5:=hq.c5;clear hq;have H1:=hid h1;clear h1) | (go_at_call 151;(with_reducible refine(CE.out _ (HB0.out.trans H1.out)).mono ?_);rintro e w2 ⟨rfl,h2⟩;have H2:=hid h2;clear h2))
  go_ret
  exact⟨rfl,HB0.out.trans (H1.out.trans H2.out)⟩
end Go.Proofs.YtikcigjbhohboaaGreat.pln
end
section
namespace Go.Proofs.YtikcigjbhohboaaGreat.pln
open Go.Lib (hid)
open Go.ChangeShapes Go.WideShapes Go.ChangeAt Go.RowKit Go.Deep val Go.Sort
def zpP (x:Pt):Pt:=⟨zp x.p,x.i,x.k,x.la,x.dn,x.ji⟩
set_option maxRecDepth 100000 in
theorem MP.store {w:World} {m K:Nat} {F:Int→Int→Option Pt} (h:MP w m K F) (hK:K<maxLen) {c t:Int} (hc:inR c) (ht:inR t) (x:Pt) :
  ∃ w',(Instr.mapUpdate 121 (.map (some m)) (keyV c t) (ptV x)).run Tryz.prog w=.ok () w'∧MP w' m (K+1) (upF F c t x)∧But (Just m) w w':=by
 obtain⟨D,h1,h2⟩:=h
 obtain⟨w',hr,ho,hm⟩:=h1.store keyedK Tryz.underlying121 hK (kl_is hc ht) (partR_mk x)
 have hD:Maps.IsMap D:=by obtain⟨es,clock,_,_,_,e⟩:=h1;rw[e];exact⟨_,rfl⟩
 exact⟨w',hr,⟨_,ho,h2.put hD hc ht x⟩,(But.refl _ w).turnedP hm (just m)⟩
abbrev PC (q m:Nat) (co bu de:Int) (ti:Bool) (i k:Nat) (la:Bool) (dn ji:Int) (W:World):Prop:=W.cell? ⟨q,9,none⟩=some (.map (some m))∧W.cell? ⟨q+1,0,none⟩=some (.int .i64 co)∧W.cell? ⟨q+1,1,none⟩=some (.int .i64 bu)∧W.cell? ⟨q+1,2,none⟩=some (.int .i64 de)∧W.cell? ⟨q+1,3,none⟩=some (.int .i64 0)∧W.cell? ⟨q+1,4,none⟩=some (.bool ti)∧W.cell? ⟨q+1,5,none⟩=some (.int .i64 (i:Int))∧W.cell? ⟨q+1,6,none⟩=some (.int .i64 (k:Int))∧W.cell? ⟨q+1,7,none⟩=some (.bool la)∧W.cell? ⟨q+1,8,none⟩=some (.int .i64 dn)∧W.cell? ⟨q+1,9,none⟩=some (.int .i64 ji)
theorem PC.butS {q m:Nat} {co bu de:Int} {ti:Bool} {i k:Nat} {la:Bool} {dn ji:Int} {W W':World} {S:Nat→Prop} (h:PC q m co bu de ti i k la dn ji W) (hb:But S W W') (hq:¬S q) (hr:¬S (q+1)):PC q m co bu de ti i k la dn ji W' :=
 ⟨cell_butS h.1 hb hq,cell_butS h.2.1 hb hr,cell_butS h.2.2.1 hb hr,cell_butS h.2.2.2.1 hb hr,cell_butS h.2.2.2.2.1 hb hr,cell_butS h.2.2.2.2.2.1 hb hr,cell_butS h.2.2.2.2.2.2.1 hb hr,cell_butS h.2.2.2.2.2.2.2.1 hb hr,cell_butS h.2.2.2.2.2.2.2.2.1 hb hr,cell_butS h.2.2.2.2.2.2.2.2.2.1 hb hr,cell_butS h.2.2.2.2.2.2.2.2.2.2 hb hr⟩
set_option maxRecDepth 100000 in
set_option maxHeartbeats 4000000 in
theorem put_any {w0 w:World} {s:Sys} {A:Option Addr} {n c m b K:Nat} {F:Int→Int→Option Pt} {f:Nat→Int} (h:LY w0 w s A n c m b K F f) (hK:K≤1000) (x:Pt) (hc:inR x.p.co) (hi:x.i<n) (hn:n≤24) :
  Calls Tryz.prog 95 #[lyV s A n c m b,ptV x] w fun e w'=>(∃ v,e=.returned v)∧LY w0 w' s A n c m b (K+1) (upF F x.p.co (x.i:Int) (zpP x)) (fun j=>if whB x=true∧j=x.i then x.p.co else f j)∧But (fun k=>k=m∨k=b) w w':=by
 have CS:Hid (∀ W,Calls Tryz.prog 64 #[ptV (zpP x)] W fun e w'=>e=.returned (keyV x.p.co (x.i:Int))∧But No W w'):=hid (fun W=>seat_any (zpP x) W)
 have CW:Hid (∀ W,Calls Tryz.prog 114 #[ptV (zpP x)] W fun e w'=>e=.returned (.bool (whB x))∧But No W w'):=hid (fun W=>whole_any (zpP x) W)
 have hiN:inR (x.i:Int):=by unfold inR;omega
 obtain⟨W0,hW0⟩:∃ W0,(w.alloc (.cells (lyA s A n c m b) 123)).alloc (.cells (ptA (zpP x)) 130)=W0:=⟨_,rfl⟩
 have hb0:But No w W0:=by rw[←hW0];exact((But.refl No w).alloc _).alloc _
 have hl0:Blk W0 w.heap.size (lyA s A n c m b) 123:=by rw[←hW0];exact(Blk.new w _ _).alloc _
 have hp0:Blk W0 (w.heap.size+1) (ptA (zpP x)) 130:=by rw[←hW0];exact blk2 w _ _ _
 have HL0:=hid hl0
 have HP0:=hid hp0
 have HB0:=hid hb0
 have HW0:=hid hW0
 have HY:=hid (h.no hb0)
 have HST:Hid (∀ W,But No W0 W→∃ W',(Instr.mapUpdate 121 (.map (some m)) (keyV x.p.co (x.i:Int)) (ptV (zpP x))).run Tryz.prog W=.ok () W'∧MP W' m (K+1) (upF F x.p.co (x.i:Int) (zpP x))∧But (Just m) W W'):=hid (fun W hW=>(HY.out.no hW).map.store (by unfold maxLen;omega) hc hiN (zpP x))
 have hltm:m<W0.heap.size:=HY.out.map.lt
 have hltb:b<W0.heap.size:=HY.out.whr.lt
 have hnm:m≠w.heap.size∧m≠w.heap.size+1:=by have:=h.map.lt;omega
 obtain⟨hq0,hq9,hq10⟩:=ly_cells hl0
 obtain⟨p0,p1,p2,p3,p4,p5,p6,p7,p8,p9⟩:=Blk.cl hp0
 clear hq0 hl0 hp0 hb0 h
 unfold zpP zp at CS CW HST HW0 HP0
 obtain⟨⟨co,bu,de,pr,ti⟩,i,k,la,dn,ji⟩:=x
 dsimp only[zpP,zp,ptV,ptA,lyV,lyA,keyV] at *
 go_enter Tryz.func95,Tryz.ntmps95
 go_wp2_with fail
 have hpc:PC w.heap.size m co bu de ti i k la dn ji W0:=⟨hq9,p0,p1,p2,p3,p4,p5,p6,p7,p8,p9⟩
 have HPC:=hid hpc
 clear hq9 hq10 p0 p1 p2 p3 p4 p5 p6 p7 p8 p9 hW0
 go_region_held3 (fun w'=>PC w.heap.size m co bu de ti i k la dn ji w') (first | assumption | exact hpc) ((go_at_call 64;(with_reducible refine(CS.out _).mono ?_);rintro e w1 ⟨rfl,h1⟩;have hb1:But No W0 w1:=(But.refl No W0).drew.trans h1;have hc1:=HPC.out.butS hb1 (fun f=>f) (fun f=>f);obtain⟨w2,hrun,hmp,hbt⟩:=HST.out w1 hb1;have hc2:PC w.heap.size m co bu de ti i k la dn ji w2:=hc1.butS hbt (fun e=>hnm.1 e.symm) (fun e=>hnm.2 e.symm);have HM:=hid hmp;have HB1:=hid hb1;have HB2:=hid hbt;clear h1 hb1 hmp hbt))
 have hbw2:But (Just m) W0 w2:=HB1.out.no.trans HB2.out
 have HLY2:Hid (LY w0 w2 s A n c m b (K+1) (upF F co (i:Int) ⟨⟨co,bu,de,0,ti⟩,i,k,la,dn,ji⟩) f):=hid (by
  have h1:=HY.out.no HB1.out
  exact⟨h1.sys,h1.but.andThen' HB2.out (fun j _ e=>by cases e;exact h1.nm),HM.out,h1.whr.but HB2.out (fun e=>h1.ne e),h1.nm,h1.nb,h1.fin⟩)
 have hL2:=HL0.out.but hbw2 (fun e=>hnm.1 e.symm)
 have HL2:=hid hL2
 have HBW:Hid (But (fun k=>k=m∨k=b) w w2):=hid (HB0.out.no.trans (hbw2.mono (fun k _ e=>.inl e)))
 clear hc1 hrun hpc hbw2 hL2 HST HPC
 obtain⟨p9,p0,p1,p2,p3,p4,p5,p6,p7,p8,p10⟩:=hc2
 cases hw:whB ⟨⟨co,bu,de,pr,ti⟩,i,k,la,dn,ji⟩ with
 | false =>
  rw[hw] at CW
  have HWB:=hid hw
  clear hw
  go_wp2_with (go_at_call 114;(with_reducible refine(CW.out _).mono ?_);rintro e w3 ⟨rfl,h3⟩;have H3:=hid h3;clear h3)
  go_end0
  have hy:=HLY2.out.no H3.out
  exact⟨⟨_,rfl⟩,⟨hy.sys,hy.but,hy.map,hy.whr.congr (fun j _=>by simp[HWB.out]),hy.nm,hy.nb,fun j=>by simpa [HWB.out] using hy.fin j⟩,HBW.out.trans H3.out.no⟩
 | true =>
  rw[hw] at CW
  have HWB:=hid hw
  clear hw
  have hin:(i:Int)<(n:Int):=by omega
  have hi0:(0:Int)≤(i:Int):=Int.natCast_nonneg i
  have HQ:Hid (∀ w3,But No w2 w3→w3.cell? ⟨w.heap.size,10,none⟩=some (.slice (some ⟨b,0,none⟩) n n)∧(w3.cell? ⟨w.heap.size+1,5,none⟩=some (.int .i64 (i:Int))∧w3.cell? ⟨w.heap.size+1,0,none⟩=some (.int .i64 co))∧w3.cell? ⟨b,i,none⟩=some (.int .i64 (f i))∧w3.frozen? ⟨b,i,none⟩=false):=hid (fun w3 h3=>⟨(HL2.out.but h3 (fun f=>f)).cell (o:=10) rfl,⟨cell_keep p5 h3,cell_keep p0 h3⟩,(HLY2.out.no h3).whr.cell hi,(HLY2.out.no h3).whr.frozen i⟩)
  go_wp2_with (go_at_call 114;(with_reducible refine(CW.out _).mono ?_);rintro e w3 ⟨rfl,h3⟩;obtain⟨r0,⟨r1,r2⟩,r3,r4⟩:=HQ.out w3 h3;have H3:=hid h3;clear h3)
  go_end0
  have hy:=HLY2.out.no H3.out
  have hset:But (fun k=>k=m∨k=b) w3 (w3.setCell ⟨b,i,none⟩ (.int .i64 co)):=(But.refl _ w3).setCell (p:=⟨b,i,none⟩) (.inr rfl) _
  refine⟨⟨_,rfl⟩,⟨hy.sys,hy.but.andThen' hset (fun j _ e=>by rcases e with e | e <;> rw[e];exact hy.nm;exact hy.nb),hy.map.but ((But.refl (Just b) w3).setCell (p:=⟨b,i,none⟩) rfl _) (fun e=>hy.ne e.symm),?_,hy.nm,hy.nb,fun j=>?_⟩,(HBW.out.trans H3.out.no).trans hset⟩
  ·exact(hy.whr.set (k:=i) (.int .i64 co)).congr (fun j _=>by by_cases e:j=i <;> simp[HWB.out,e])
  ·by_cases e:j=i
   ·simp[HWB.out,e];exact hc
   ·simp[e];exact hy.fin j
end Go.Proofs.YtikcigjbhohboaaGreat.pln
end
