/- The walk of ResponseNothing. -/
import Derived.Test.YtnjkgalbbhmgjaaReE
import Derived.Test.YtnjkgalbbhmgjaaReN
import Derived.Test.YtnjkgalbbhmgjaaReO
import Derived.Deep.RegionHeld3
namespace Go.Proofs.Ytnjkgalbbhmgjaa
open Go.ChangeShapes Go.WideShapes Go.ChangeAt Go.RowKit Go.Deep rsp
namespace responseNothing
/-- What the call has made: a row of loads of its own. -/
structure Gl (w wr : World) (v : Value) (l : List Ld) : Prop where
  but : But No w wr
  own : OLd wr 33 v l
  new : ∀ k, v.ownBlock = some k → w.heap.size ≤ k
theorem Gl.no {w wr w2 : World} {v : Value} {l : List Ld} (h : Gl w wr v l) (hb : But No wr w2) : Gl w w2 v l := ⟨h.but.trans hb, h.own.but hb (fun _ _ f => f), h.new⟩
theorem Gl.app {w wr w2 : World} {v : Value} {l k : List Ld} {A : Option Addr} {c n : Nat} (h : Gl w wr v l) (hn : n = l.length + k.length) (ho : w2.ownsRow 0 33 3 (.slice A n c) n (l.flatMap ldC ++ k.flatMap ldC)) (hg : wr.grownBy w2 v.ownBlock)
    (hat : (Value.slice A n c).ownBlock = v.ownBlock ∨ (Value.slice A n c).ownBlock = some wr.heap.size) : Gl w w2 (.slice A n c) (l ++ k) := by
  refine ⟨h.but.grown hg (fun k e => .inr (h.new k e)), ?_, own_new h.new hat h.but.size⟩
  unfold OLd
  rw [List.length_append, List.flatMap_append, ← hn]
  exact ho
set_option maxRecDepth 100000 in
set_option maxHeartbeats 8000000 in
theorem walk (own : Int) (ho : (Lit.int .i64 own).wf = true) (bl : Int) (hb : (Lit.int .i64 bl).wf = true) (A : Option Addr) (n c : Nat) (a : List Ld) (hnc : n ≤ c) (_ : n * 24 ≤ 140737488351232) (B : Option Addr) (m d : Nat) (b : List Ld) (hmd : m ≤ d) (_ : m * 24 ≤ 140737488351232) (t : Int) (ht : (Lit.int .i64 t).wf = true) (limit : Int) (hl : (Lit.int .i64 limit).wf = true) (w : World) (h : RLd w A n a) (h' : RLd w B m b) :
    Calls Try.prog 8 #[.int .i64 own, .int .i64 bl, .slice A n c, .slice B m d, .int .i64 t, .int .i64 limit] w fun e w' => e = .returned (.bool true) ∧ But No w w' := by
  have CX : Hid (∀ W, Calls Try.prog 9 #[] W fun e w' => e = .returned (.bool true) ∧ But No W w') := examples_ok
  obtain ⟨i0, hi0, hz0, hz1, hz2⟩ := info_parts infoD
  have I0 : Hid (Try.prog.info? 33 = some i0 ∧ i0.zero = some (.agg #[.int .i64 0, .int .i64 0, .int .i64 0]) ∧ i0.size = 3 ∧ i0.bytes = 24) := ⟨hi0, hz0, hz1, hz2⟩
  clear hi0 hz0 hz1 hz2
  obtain ⟨n1, hn1⟩ : ∃ n1 : Nat, n1 = min n 20 := ⟨_, rfl⟩
  obtain ⟨m1, hm1⟩ : ∃ m1 : Nat, m1 = min m 20 := ⟨_, rfl⟩
  have en : (if (20 : Int) < (n : Int) then (20 : Int) else (n : Int)) = (n1 : Int) := by split <;> omega
  have em : (if (20 : Int) < (m : Int) then (20 : Int) else (m : Int)) = (m1 : Int) := by split <;> omega
  have HLA := Lib.hid (h.take (i := n1) (by omega))
  have HLB := Lib.hid (h'.take (i := m1) (by omega))
  generalize a.take n1 = a1 at HLA
  generalize b.take m1 = b1 at HLB
  have HN := Lib.hid HLA.out.len
  have HPI := Lib.hid (And.intro (inR_of ho) (And.intro (inR_of hb) (And.intro (inR_of ht) (inR_of hl))))
  clear h h' ho hb ht hl
  go_enter Try.func8, Try.ntmps8
  go_upto_region 4 with (go_at_call 9; (with_reducible refine (CX.out _).mono ?_); rintro e w1 ⟨rfl, h1⟩; have H1 := Lib.hid h1; clear h1)
  rw [← hn1, ← hm1]
  have h20 : n1 ≤ 20 := by omega
  have m20 : m1 ≤ 20 := by omega
  have HLA := Lib.hid (HLA.out.no H1.out)
  have HLB := Lib.hid (HLB.out.no H1.out)
  have RD := Lib.hid HLA.out.reads
  have OC := Lib.hid (all_cells a1)
  clear en em hn1 hm1 CX
  go_upto_region 5 with (at_builtin; refine wpList_append_sh _ rfl _ _ 22 rfl 33 i0 _ 3 24 Try.underlying22 I0.out.1 I0.out.2.1 I0.out.2.2.1 I0.out.2.2.2 rfl (by omega) (.slice none 0 0) 0 [] rfl (World.ownsRow_nil _ _ _ _) w1.heap.size A n1 c (a1.flatMap ldC) rfl RD.out OC.out (by unfold maxLen; omega) (by omega) ?_; intro A4 c4 w4 hown4 hgrow4 hat4; have HG := Lib.hid (Gl.app (w := w1) (wr := w1) (v := .slice none 0 0) (l := []) (k := a1) ⟨But.refl No w1, OLd.nil w1 _, own_none⟩ (by rw [HN.out]; simp) hown4 hgrow4 hat4); clear hown4 hgrow4 hat4)
  clear RD OC
  rw [List.nil_append] at HG
  go_wp2_with fail
  go_loopw [14, 15] (fun v i wr => ∃ (vv : Value) (q : Nat), v = vv ∧ i = .int .i64 (q : Int) ∧ q ≤ n1 ∧ Hid (Gl w1 wr vv (a1 ++ (a1.take q).map nul))) (fun _ i _ => n1 - (intOf i).toNat)
  case atStart => exact ⟨_, 0, rfl, rfl, by omega, Lib.hid (by simpa using HG.out)⟩
  case round =>
    obtain ⟨v, q, hv, rfl, hq, HGR⟩ := hrel
    have hv' := hv.symm
    subst hv'
    clear hv HG
    have hq0 : (0 : Int) ≤ (q : Int) := Int.natCast_nonneg q
    by_cases hqn : q < n1
    · have hqn2 : (q : Int) < (n1 : Int) := by omega
      have b3 : decide ((q : Int) < (n1 : Int)) = true := by simp; omega
      obtain ⟨x, hx⟩ : ∃ x, a1[q]? = some x := ⟨_, List.getElem?_eq_getElem (by rw [HN.out]; exact hqn)⟩
      obtain ⟨k, off, rfl, _, e0, e1, e2⟩ := (HLA.out.no HGR.out.but).at1 hx
      have TS := Lib.hid (show a1 ++ (a1.take (q + 1)).map nul = (a1 ++ (a1.take q).map nul) ++ [nul x] by rw [List.take_add_one, hx]; simp)
      have HTL := Lib.hid (show (a1 ++ (a1.take q).map nul).length = n1 + q by rw [List.length_append, List.length_map, List.length_take, HN.out]; omega)
      clear hx
      obtain ⟨x0, x1, x2⟩ := x
      dsimp only [nul] at e0 e1 e2 TS
      have HGa := Lib.hid (HGR.out.no (((But.refl No wr).alloc (.cells #[.int .i64 0, .int .i64 x1, .int .i64 x2] 33)).alloc (.cells #[.int .i64 0, .int .i64 x1, .int .i64 x2] 33)))
      go_wp2_with (at_builtin; refine wpList_append_sh _ rfl _ _ 22 rfl 33 i0 _ 3 24 Try.underlying22 I0.out.1 I0.out.2.1 I0.out.2.2.1 I0.out.2.2.2 rfl (by omega) v (n1 + q) ((a1 ++ (a1.take q).map nul).flatMap ldC) rfl (by rw [← HTL.out]; exact HGa.out.own) ((wr.alloc (.cells #[.int .i64 0, .int .i64 x1, .int .i64 x2] 33)).heap.size + 1) (some ⟨(wr.alloc (.cells #[.int .i64 0, .int .i64 x1, .int .i64 x2] 33)).heap.size, 0, none⟩) 1 1 (ldC ⟨0, x1, x2⟩) (by simp [Act.eval]) (ld_one_reads (wr.alloc (.cells #[.int .i64 0, .int .i64 x1, .int .i64 x2] 33)) ⟨0, x1, x2⟩ _) (ld_one_cell ⟨0, x1, x2⟩) (by unfold maxLen; omega) (by omega) ?_; intro A5 c5 w5 hown5 hgrow5 hat5; have HG5 := Lib.hid (Gl.app (k := [⟨0, x1, x2⟩]) HGa.out (by rw [HTL.out]; rfl) hown5 hgrow5 hat5); clear hown5 hgrow5 hat5)
      go_roundw
      case rel => exact ⟨_, q + 1, rfl, by go_num, by omega, by rw [TS.out]; exact HG5.out⟩
      case measure => simp [intOf]; omega
    · have b3 : decide ((q : Int) < (n1 : Int)) = false := by simp; omega
      obtain rfl : q = n1 := by omega
      have hta : a1.take q = a1 := List.take_of_length_le (by rw [HN.out]; omega)
      rw [hta] at HGR
      clear hta
      obtain ⟨A7, c7, hv7, hr7⟩ := HGR.out.own.rd (by rw [List.length_append, List.length_map, HN.out]; omega) (fun x hx => by
        rcases List.mem_append.1 hx with hx | hx
        · exact HLA.out.fit x hx
        · obtain ⟨y, hy, rfl⟩ := List.mem_map.1 hx
          exact ⟨by unfold inR nul; dsimp only; omega, (HLA.out.fit y hy).2⟩)
      have HB := Lib.hid HGR.out.but
      subst hv7
      obtain ⟨n7, hn7⟩ : ∃ n7, (a1 ++ a1.map nul).length = n7 := ⟨_, rfl⟩
      rw [hn7] at hr7 ⊢
      have HR7 := Lib.hid hr7
      clear hr7 hn7 HGR
      have z0 : inR 0 := by unfold inR; omega
      have CA : Hid (∀ W, But No w1 W → Calls Try.prog 10 #[.int .i64 own, .int .i64 bl, .int .i64 0, .slice A q c, .slice none 0 0, .int .i64 t] W fun e w' => e = .returned (.tuple #[.int .i64 (wiV own bl 0 a1 [] t), .int .i64 (wiE own bl 0 a1 [] t)]) ∧ But No W w') := Lib.hid (fun W hw => within_any A q c a1 none 0 0 [] own bl 0 t W (HLA.out.no hw) (RLd.nil W) HPI.out.1 HPI.out.2.1 z0 HPI.out.2.2.1)
      have CC : Hid (∀ W, But No w1 W → Calls Try.prog 13 #[.int .i64 own, .int .i64 bl, .int .i64 0, .slice A q c, .slice none 0 0, .int .i64 limit] W fun e w' => e = .returned (.tuple #[.int .i64 (bnP own bl 0 a1 [] limit).1, .int .i64 (bnP own bl 0 a1 [] limit).2]) ∧ But No W w') := Lib.hid (fun W hw => bound_any A q c a1 none 0 0 [] own bl 0 limit W (HLA.out.no hw) (RLd.nil W) HPI.out.1 HPI.out.2.1 z0 HPI.out.2.2.2)
      have CB : Hid (∀ W, But No w1 W → But No wr W → Calls Try.prog 10 #[.int .i64 own, .int .i64 bl, .int .i64 0, .slice A7 n7 c7, .slice B m1 d, .int .i64 t] W fun e w' => e = .returned (.tuple #[.int .i64 (wiV own bl 0 (a1 ++ a1.map nul) b1 t), .int .i64 (wiE own bl 0 (a1 ++ a1.map nul) b1 t)]) ∧ But No W w') := Lib.hid (fun W hw hw' => within_any A7 n7 c7 _ B m1 d b1 own bl 0 t W (HR7.out.no hw') (HLB.out.no hw) HPI.out.1 HPI.out.2.1 z0 HPI.out.2.2.1)
      have CD : Hid (∀ W, But No w1 W → But No wr W → Calls Try.prog 13 #[.int .i64 own, .int .i64 bl, .int .i64 0, .slice A7 n7 c7, .slice B m1 d, .int .i64 limit] W fun e w' => e = .returned (.tuple #[.int .i64 (bnP own bl 0 (a1 ++ a1.map nul) b1 limit).1, .int .i64 (bnP own bl 0 (a1 ++ a1.map nul) b1 limit).2]) ∧ But No W w') := Lib.hid (fun W hw hw' => bound_any A7 n7 c7 _ B m1 d b1 own bl 0 limit W (HR7.out.no hw') (HLB.out.no hw) HPI.out.1 HPI.out.2.1 z0 HPI.out.2.2.2)
      have HE1 := Lib.hid (bn_err own bl 0 a1 [] limit)
      cases hR : right own bl 0 (a1 ++ a1.map nul) b1 with
      | false =>
        rw [(nul_bad hR t limit).1] at CB
        rw [(nul_bad hR t limit).2] at CD
        clear hR
        go_wp2_with (first | (go_at_call 10; (with_reducible refine (CA.out _ HB.out).mono ?_); rintro e wA ⟨rfl, h2⟩; have G1 := Lib.hid (HB.out.trans h2); have K1 := Lib.hid h2; clear h2) | (go_at_call 10; (with_reducible refine (CB.out _ G1.out K1.out).mono ?_); rintro e wB ⟨rfl, h2⟩; have G2 := Lib.hid (G1.out.trans h2); have K2 := Lib.hid (K1.out.trans h2); clear h2) | (go_at_call 13; (with_reducible refine (CC.out _ G2.out).mono ?_); rintro e wC ⟨rfl, h2⟩; have G3 := Lib.hid (G2.out.trans h2); have K3 := Lib.hid (K2.out.trans h2); clear h2) | (go_at_call 13; (with_reducible refine (CD.out _ G3.out K3.out).mono ?_); rintro e wD ⟨rfl, h2⟩; have G4 := Lib.hid (G3.out.trans h2); clear h2))
        go_ret
        exact ⟨ret_bool (by simp), H1.out.trans G4.out⟩
      | true =>
        rw [(nul_wi hR t).1, (nul_wi hR t).2] at CB
        rw [nul_bn hR limit] at CD
        clear hR
        generalize wiV own bl 0 a1 [] t = v1 at CA CB
        have hE : wiE own bl 0 a1 [] t = 0 ∨ wiE own bl 0 a1 [] t = 1 ∨ wiE own bl 0 a1 [] t = 2 := by rcases wi_cases own bl 0 a1 [] t with ⟨e, _⟩ | ⟨_, _, e, _⟩ | ⟨_, _, e, _⟩ <;> omega
        generalize wiE own bl 0 a1 [] t = f1 at CA CB hE
        generalize (bnP own bl 0 a1 [] limit).1 = v2 at CC CD
        generalize (bnP own bl 0 a1 [] limit).2 = f2 at CC CD HE1
        by_cases g1 : f1 = 1
        · have p1 : (f1 == 1) = true := by simp [g1]
          by_cases g2 : f2 = 1
          · have p2 : (f2 == 1) = true := by simp [g2]
            go_wp2_with (first | (go_at_call 10; (with_reducible refine (CA.out _ HB.out).mono ?_); rintro e wA ⟨rfl, h2⟩; have G1 := Lib.hid (HB.out.trans h2); have K1 := Lib.hid h2; clear h2) | (go_at_call 10; (with_reducible refine (CB.out _ G1.out K1.out).mono ?_); rintro e wB ⟨rfl, h2⟩; have G2 := Lib.hid (G1.out.trans h2); have K2 := Lib.hid (K1.out.trans h2); clear h2) | (go_at_call 13; (with_reducible refine (CC.out _ G2.out).mono ?_); rintro e wC ⟨rfl, h2⟩; have G3 := Lib.hid (G2.out.trans h2); have K3 := Lib.hid (K2.out.trans h2); clear h2) | (go_at_call 13; (with_reducible refine (CD.out _ G3.out K3.out).mono ?_); rintro e wD ⟨rfl, h2⟩; have G4 := Lib.hid (G3.out.trans h2); clear h2))
            go_ret
            exact ⟨ret_bool (by simp), H1.out.trans G4.out⟩
          · have p2 : (f2 == 1) = false := by simp [g2]
            go_wp2_with (first | (go_at_call 10; (with_reducible refine (CA.out _ HB.out).mono ?_); rintro e wA ⟨rfl, h2⟩; have G1 := Lib.hid (HB.out.trans h2); have K1 := Lib.hid h2; clear h2) | (go_at_call 10; (with_reducible refine (CB.out _ G1.out K1.out).mono ?_); rintro e wB ⟨rfl, h2⟩; have G2 := Lib.hid (G1.out.trans h2); have K2 := Lib.hid (K1.out.trans h2); clear h2) | (go_at_call 13; (with_reducible refine (CC.out _ G2.out).mono ?_); rintro e wC ⟨rfl, h2⟩; have G3 := Lib.hid (G2.out.trans h2); have K3 := Lib.hid (K2.out.trans h2); clear h2) | (go_at_call 13; (with_reducible refine (CD.out _ G3.out K3.out).mono ?_); rintro e wD ⟨rfl, h2⟩; have G4 := Lib.hid (G3.out.trans h2); clear h2))
            go_ret
            exact ⟨ret_bool (by simp), H1.out.trans G4.out⟩
        · have p1 : (f1 == 1) = false := by simp [g1]
          go_wp2_with (first | (go_at_call 10; (with_reducible refine (CA.out _ HB.out).mono ?_); rintro e wA ⟨rfl, h2⟩; have G1 := Lib.hid (HB.out.trans h2); have K1 := Lib.hid h2; clear h2) | (go_at_call 10; (with_reducible refine (CB.out _ G1.out K1.out).mono ?_); rintro e wB ⟨rfl, h2⟩; have G2 := Lib.hid (G1.out.trans h2); have K2 := Lib.hid (K1.out.trans h2); clear h2) | (go_at_call 13; (with_reducible refine (CC.out _ G2.out).mono ?_); rintro e wC ⟨rfl, h2⟩; have G3 := Lib.hid (G2.out.trans h2); have K3 := Lib.hid (K2.out.trans h2); clear h2) | (go_at_call 13; (with_reducible refine (CD.out _ G3.out K3.out).mono ?_); rintro e wD ⟨rfl, h2⟩; have G4 := Lib.hid (G3.out.trans h2); clear h2))
          go_ret
          exact ⟨ret_bool (by simp), H1.out.trans G4.out⟩
end responseNothing
end Go.Proofs.Ytnjkgalbbhmgjaa
