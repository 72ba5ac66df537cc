/- The walk of IpiOnce. -/
import Derived.Test.YtmfjlfemeihchaaO
import Derived.Deep.DeepCutAuto
namespace Go.Proofs.Ytmfjlfemeihchaa
open Go.ChangeShapes Go.WideShapes Go.ChangeAt Go.RowKit Go.Deep
theorem vals_made1 {w : World} {b n : Nat} {e : TypeId} {z : Value} (hz : z.cells = #[z]) (h : w.ownsRow 0 e 1 (.slice (some ⟨b, 0, none⟩) n n) n (madeCells z.cells (n * 1)).toList) : Vals w b e n (fun _ => z) := by
  obtain ⟨h1, h2⟩ := h
  rcases h2 with ⟨h2, _⟩ | ⟨g, cap, cur, hv, _, hh, hn, hc, hs, ht⟩
  · cases h2
  · cases hv
    have e : cur = ((List.range n).map (fun _ => z)).toArray := by
      apply Array.ext'
      have e1 : cur.toList.take (n * 1) = cur.toList := List.take_of_length_le (by simp; omega)
      rw [e1] at ht
      rw [ht]
      apply List.ext_getElem?
      intro j
      by_cases hj : j < n
      · simp [madeCells, hj, hz, Nat.mod_one]
      · simp [madeCells, hj]
    show w.heap[b]? = _
    rw [← e]; exact hh
namespace ipiOnce
theorem okS_is {T : Nat} {L : List Nt} (_ : Gd 2 T L) {c t q : Nat} (hc : c < 2) (ht : t < 24) (hq : q ≤ 200) : okS 2 L c t q = (fnd L c t).isNone := by
  unfold okS
  rw [decide_eq_true (show inB 2 c t q by unfold inB; omega), Bool.true_and]
theorem wi_in {l : Int} (h1 : 1 ≤ l) (h2 : l ≤ 50) : wi l = l := by unfold wi; rw [if_neg (by omega), if_neg (by omega)]
theorem pk_nat (c n : Int) (h : 0 < n) : ∃ k : Nat, pk c n = k ∧ (k : Int) < n := by
  have := pk_lt c n h
  exact ⟨(pk c n).toNat, by omega, by omega⟩
set_option maxHeartbeats 20000000 in
set_option maxRecDepth 100000 in
theorem walk (A0 : Option Addr) (n0 c0 : Nat) (zs0 : List Int) (_ : n0 ≤ c0) (A1 : Option Addr) (n1 c1 : Nat) (zs1 : List Int) (_ : n1 ≤ c1) (A2 : Option Addr) (n2 c2 : Nat) (zs2 : List Int) (_ : n2 ≤ c2) (w : World) (hz0 : Rd w A0 n0 zs0) (hz1 : Rd w A1 n1 zs1) (hz2 : Rd w A2 n2 zs2) :
    Calls Try.prog 4 #[.slice A0 n0 c0, .slice A1 n1 c1, .slice A2 n2 c2] w fun e w' => e = .returned (.bool true) ∧ But No w w' := by
  have R0 := Lib.hid hz0
  have R1 := Lib.hid hz1
  have R2 := Lib.hid hz2
  have m0 := hz0.max
  have m1 := hz1.max
  have m2 := hz2.max
  obtain ⟨i0, hi0, hz0', hz1', hz2'⟩ := info_parts info3
  have I0 : Hid (Try.prog.info? 3 = some i0 ∧ i0.zero = some (.int .i64 0) ∧ i0.size = 1 ∧ i0.bytes = 8) := ⟨hi0, hz0', hz1', hz2'⟩
  clear hz0 hz1 hz2 hi0 hz0' hz1' hz2'
  go_enter Try.func4, Try.ntmps4
  go_wp2_with (first
    | (go_at_call 6; refine (examples_any _).mono ?_; rintro e we ⟨rfl, hbe⟩; have HE := Lib.hid hbe; clear hbe)
    | (go_at_call 7; refine (new_ok 2 _ (by omega) (by omega)).mono ?_; rintro e w1 ⟨p, m, rfl, h1, h2, h3⟩; have HN1 := Lib.hid (Hw.made HE.out h1 h2 h3); clear h1 h2 h3)
    | (at_make; refine wpList_make_full _ rfl _ _ 34 rfl 0 3 i0 _ 1 Try.underlying34 I0.out.1 I0.out.2.1 I0.out.2.2.1 .i64 .i64 _ _ 48 rfl rfl (by omega) (by omega) (by rw [I0.out.2.2.2]; omega) (by unfold maxLen; omega) (Nat.zero_le _) ?_; intro w3 hown hgrow; have HS0 : Hid (St w w3 p m w1.heap.size 0 [] (fun _ => 0)) := ⟨HN1.out.no ((But.refl No w1).grown hgrow (fun k e => by cases e)), vals_made1 rfl hown, fun e => by have := HN1.out.bp.lt _ e; omega, HN1.out.but.size⟩; clear hown hgrow))
  have HREL : Hid (Rel w w3 p m w1.heap.size 0 0) := ⟨0, [], fun _ => 0, HS0.out, fun c t _ _ => rfl, fun n hn => by simp at hn, by omega⟩
  clear HS0 HN1 HE
  generalize w1.heap.size = db at HREL ⊢
  go_loopw [11] (fun i wx => ∃ q : Nat, i = .int .i64 q ∧ q ≤ 200 ∧ Hid (Rel w wx p m db q 0)) (fun i _ => 200 - (intOf i).toNat)
  case atStart => exact ⟨0, rfl, by omega, HREL⟩
  case round =>
    obtain ⟨q, rfl, hq, hrq⟩ := hrel
    clear HREL
    by_cases hq2 : q < 200
    · have qn : (q : Int) < 200 := by omega
      have HREL := hrq
      clear hrq
      go_wp2_with fail
      go_loopw [12] (fun i wx => ∃ c : Nat, i = .int .i64 c ∧ c ≤ 2 ∧ Hid (Rel w wx p m db q c)) (fun i _ => 2 - (intOf i).toNat)
      case atStart => exact ⟨0, rfl, by omega, HREL⟩
      case round =>
        obtain ⟨c, rfl, hc, hrc⟩ := hrel
        clear HREL
        by_cases hc2 : c < 2
        · have cn2 : (c : Int) < 2 := by omega
          obtain ⟨T, L, F, hst, hfl, hlo, htq⟩ := hrc.out
          have HST := Lib.hid hst
          have HFL := Lib.hid hfl
          have HLO := Lib.hid hlo
          have HTQ := Lib.hid htq
          obtain ⟨b, hb⟩ : ∃ b, b = c * 24 := ⟨_, rfl⟩
          have HBE := Lib.hid hb
          have cb : (c : Int) * 24 = (b : Int) := by omega
          have hb24 : b ≤ 24 := by omega
          obtain ⟨K, hK⟩ : ∃ K, K = tk c q L := ⟨_, rfl⟩
          have HKE := Lib.hid hK
          obtain ⟨zs, hzs⟩ : ∃ zs, zs = K.map Nt.task := ⟨_, rfl⟩
          obtain ⟨nz, hnz⟩ : ∃ nz, nz = K.length := ⟨_, rfl⟩
          have hnz9 : nz ≤ 24 := by rw [hnz, hK, ← byT_tk hst.hw.bp.gd]; exact byT_len _ _ _ _
          have hlz : zs.length = nz := by rw [hzs, List.length_map, hnz]
          have HNZ := Lib.hid hnz
          have HZS := Lib.hid hzs
          have HCN : Hid (cnF F b q 24 = nz) := by
            show _ = _
            rw [hnz, hK, ← byT_tk hst.hw.bp.gd, hb]
            exact cnF_len hst.hw.bp.gd hfl hc2 hlo 24 (by omega)
          have CT : Hid (Calls Try.prog 12 #[.pointer (some ⟨p, 0, none⟩), .int .i64 c, .int .i64 q] wr fun r w' => ∃ A d, r = .returned (.slice A nz d) ∧ Zr w w' p m db T (lf c q L) (zr F b K 0) (.slice A nz d) zs) := by
            refine (take_any p m 2 T L c q wr hst.hw.bp (by unfold inR; omega)).mono ?_
            rintro r w' ⟨v, rfl, ht⟩
            have ho := ht.o
            rw [← hK, ← hzs] at ho
            obtain ⟨A, d, rfl, _⟩ := ho.slice
            rw [hlz] at ht ho ⊢
            refine ⟨A, d, rfl, (hst.turn ht.bp ht.but).congr (fun j => zr_zero F b K j), ho, fun e => ?_⟩
            have h1 := ht.new db e
            have h2 := hst.vs.lt
            omega
          have HLZ := Lib.hid hlz
          clear hst hfl hlo htq hb hK hzs hnz hrc hlz
          go_wp2_with (go_at_call 12; (with_reducible refine CT.out.mono ?_); rintro e w2 ⟨A, d, rfl, hzr⟩; have HZ0 := Lib.hid hzr; clear hzr)
          clear CT
          have HW2 : Hid (w2 = w2) := show _ = _ from rfl
          go_loopw [14, 15] (fun s i wx => ∃ t : Nat, s = .int .i64 (cnF F b q t : Nat) ∧ i = .int .i64 t ∧ t ≤ 24 ∧ Hid (wx = w2)) (fun _ i _ => 24 - (intOf i).toNat)
          case atStart => exact ⟨0, rfl, rfl, by omega, HW2⟩
          case round =>
            obtain ⟨t, rfl, rfl, ht, hw⟩ := hrel
            have hw' := hw.out
            subst hw'
            clear HW2
            have hcl := cnF_le F b q t
            by_cases ht2 : t < 24
            · have tn : (t : Int) < 24 := by omega
              obtain ⟨a, ha⟩ : ∃ a, a = b + t := ⟨_, rfl⟩
              have ab : (b : Int) + (t : Int) = (a : Int) := by omega
              have a48 : (a : Int) < 48 := by omega
              have a48' : a < 48 := by omega
              have ca := HZ0.out.st.cell a48'
              rw [zr_zero] at ca
              have HS : Hid (cnF F b q (t + 1) = if F a = (q : Int) ∧ 0 < q then cnF F b q t + 1 else cnF F b q t) := by show _ = _; rw [ha]; rfl
              generalize F a = z at ca HS
              generalize cnF F b q t = s at hcl HS
              by_cases hzq : z = (q : Int)
              · have bz : (z == (q : Int)) = true := by simpa using hzq
                by_cases h0 : 0 < q
                · have HS2 : Hid (cnF F b q (t + 1) = s + 1) := by show _ = _; rw [HS.out, if_pos ⟨hzq, h0⟩]
                  have b0 : decide ((0 : Int) < (q : Int)) = true := by simp; omega
                  have b0' : decide (0 < q) = true := by simp; omega
                  clear hzq ha HS
                  go_wp2
                  go_roundw
                  case rel => exact ⟨t + 1, by rw [HS2.out]; go_num, by go_num, by omega, by first | exact True.intro | exact rfl⟩
                  case measure => simp [intOf]; omega
                · have HS2 : Hid (cnF F b q (t + 1) = s) := by show _ = _; rw [HS.out, if_neg (fun e => h0 e.2)]
                  have b0 : decide ((0 : Int) < (q : Int)) = false := by simp; omega
                  have b0' : decide (0 < q) = false := by simp; omega
                  clear hzq ha HS
                  go_wp2
                  go_roundw
                  case rel => exact ⟨t + 1, by rw [HS2.out], by go_num, by omega, by first | exact True.intro | exact rfl⟩
                  case measure => simp [intOf]; omega
              · have bz : (z == (q : Int)) = false := by simpa using hzq
                have HS2 : Hid (cnF F b q (t + 1) = s) := by show _ = _; rw [HS.out, if_neg (fun e => hzq e.1)]
                clear hzq ha HS
                go_wp2
                go_roundw
                case rel => exact ⟨t + 1, by rw [HS2.out], by go_num, by omega, by first | exact True.intro | exact rfl⟩
                case measure => simp [intOf]; omega
            · obtain rfl : t = 24 := by omega
              rw [HCN.out] at hcl ⊢
              clear hcl ht
              go_wp2_with fail
              go_loopw [16] (fun i wx => ∃ j : Nat, i = .int .i64 j ∧ j ≤ nz ∧ Hid (Zr w wx p m db T (lf c q L) (zr F b K j) (.slice A nz d) zs)) (fun i _ => nz - (intOf i).toNat)
              case atStart => exact ⟨0, rfl, by omega, HZ0⟩
              case round =>
                obtain ⟨j, rfl, hj, hzr⟩ := hrel
                clear HZ0
                by_cases hjl : j < nz
                · have jn : (j : Int) < (nz : Int) := by omega
                  have hjK : j < (tk c q L).length := by rw [← HKE.out, ← HNZ.out]; exact hjl
                  obtain ⟨d1, d2, d3⟩ := tk_due HST.out.hw.bp.gd HFL.out hc2 HLO.out hjK
                  have d4 := zr_fresh HST.out.hw.bp.gd F c q hjK
                  have d5 : ∀ i, zr F b K (j + 1) i = if i = b + (K.getD j nt0).task.toNat then 0 else zr F b K j i := fun i => zr_step F b (by rw [HKE.out]; exact hjK) i
                  rw [← HKE.out, ← HBE.out] at d1 d4
                  rw [← HKE.out] at d2 d3
                  obtain ⟨y, hy⟩ : ∃ y : Nat, (K.getD j nt0).task = y := ⟨(K.getD j nt0).task.toNat, by omega⟩
                  rw [hy, Int.toNat_natCast] at d1 d4 d5
                  rw [hy] at d2 d3
                  obtain ⟨a, ha⟩ : ∃ a, a = b + y := ⟨_, rfl⟩
                  rw [← ha] at d1 d4 d5
                  have ab : (b : Int) + (y : Int) = (a : Int) := by omega
                  have a48 : (a : Int) < 48 := by omega
                  have a48' : a < 48 := by omega
                  have y24 : (y : Int) < 24 := by omega
                  have by0 : decide ((y : Int) < 0) = false := by simp
                  have by1 : decide ((24 : Int) ≤ (y : Int)) = false := by simp; omega
                  obtain ⟨g, hA, _, hcA⟩ := hzr.out.o.cell (k := j) (by rw [HLZ.out]; exact hjl)
                  have HAA := Lib.hid hA
                  subst hA
                  have cy := hcA j (by rw [HLZ.out]; exact hjl)
                  have ey : zs.getD j 0 = (y : Int) := by
                    rw [HZS.out, ← hy]
                    simp [List.getD, List.getElem?_eq_getElem (show j < K.length by rw [← HNZ.out]; exact hjl)]
                  rw [ey] at cy
                  have ca := hzr.out.st.cell a48'
                  rw [d4, d1] at ca
                  have fa := hzr.out.st.vs.frozen a
                  have HNX : Hid (Zr w (wr.setCell ⟨db, a, none⟩ (.int .i64 0)) p m db T (lf c q L) (zr F b K (j + 1)) (.slice (some ⟨g, 0, none⟩) nz d) zs) := hzr.out.set a 0 d5
                  clear d1 d2 d3 d4 d5 hy ha hcA ey hzr hjK
                  go_wp2
                  go_roundw
                  case rel => exact ⟨j + 1, by go_num, by omega, HNX⟩
                  case measure => simp [intOf]; omega
                · obtain rfl : j = nz := by omega
                  have bq : decide ((j : Int) < (j : Int)) = false := by simp
                  have HNX : Hid (Rel w wr p m db q (c + 1)) := by
                    have h1 := HFL.out.struck HST.out.hw.bp.gd (c := c) (q := q)
                    rw [← HKE.out, ← HBE.out, ← HNZ.out] at h1
                    exact ⟨T, lf c q L, _, hzr.out.st, h1, HLO.out.struck, HTQ.out⟩
                  clear hzr
                  go_wp2
                  exact ⟨⟨c + 1, by go_num, by omega, HNX⟩, by simp [intOf]; omega⟩
        · obtain rfl : c = 2 := by omega
          obtain ⟨T, L, F, hst, hfl, hlo, htq⟩ := hrc.out
          have HST := Lib.hid hst
          have HFL := Lib.hid hfl
          have HLO : Hid (Lo L (q + 1) 0) := hlo.next hst.hw.bp.gd (by omega)
          have HTQ := Lib.hid htq
          clear hst hfl hlo htq hrc
          have HTQ1 : Hid (T ≤ q + 1) := by show _ ≤ _; have := HTQ.out; omega
          by_cases g0 : q < 100
          · have gi0 : (q : Int) < 100 := by omega
            have gb0 : decide ((q : Int) < 100) = true := by simp; omega
            by_cases g1 : q < n0
            · have gi1 : (q : Int) < (n0 : Int) := by omega
              have gb1 : decide ((q : Int) < (n0 : Int)) = true := by simp; omega
              by_cases g2 : q < n1
              · have gi2 : (q : Int) < (n1 : Int) := by omega
                have gb2 : decide ((q : Int) < (n1 : Int)) = true := by simp; omega
                by_cases g3 : q < n2
                · have gi3 : (q : Int) < (n2 : Int) := by omega
                  have gb3 : decide ((q : Int) < (n2 : Int)) = true := by simp; omega
                  obtain ⟨b0, o0, rfl, _, hc0⟩ := (R0.out.no HST.out.hw.but).at_ (by omega)
                  obtain ⟨b1, o1, rfl, _, hc1⟩ := (R1.out.no HST.out.hw.but).at_ (by omega)
                  obtain ⟨b2, o2, rfl, _, hc2'⟩ := (R2.out.no HST.out.hw.but).at_ (by omega)
                  have x0c := hc0 q g1
                  have x1c := hc1 q g2
                  have x2c := hc2' q g3
                  have x0r := R0.out.fit q
                  have x1r := R1.out.fit q
                  have x2r := R2.out.fit q
                  generalize zs0.getD q 0 = x0 at x0c x0r
                  generalize zs1.getD q 0 = x1 at x1c x1r
                  generalize zs2.getD q 0 = x2 at x2c x2r
                  obtain ⟨tN, ht1, ht2⟩ := pk_nat x0 24 (by omega)
                  obtain ⟨cN, hc1', hc2''⟩ := pk_nat x1 2 (by omega)
                  obtain ⟨lN, hl1, hl2⟩ := pk_nat x2 50 (by omega)
                  have CK0 : Hid (∀ W, Calls Try.prog 9 #[.int .i64 x0, .int .i64 24] W fun r w' => r = .returned (.int .i64 tN) ∧ W = w') := fun W => by rw [← ht1]; exact pick_any x0 24 W x0r (by omega) (by omega)
                  have CK1 : Hid (∀ W, Calls Try.prog 9 #[.int .i64 x1, .int .i64 2] W fun r w' => r = .returned (.int .i64 cN) ∧ W = w') := fun W => by rw [← hc1']; exact pick_any x1 2 W x1r (by omega) (by omega)
                  have CK2 : Hid (∀ W, Calls Try.prog 9 #[.int .i64 x2, .int .i64 50] W fun r w' => r = .returned (.int .i64 lN) ∧ W = w') := fun W => by rw [← hl1]; exact pick_any x2 50 W x2r (by omega) (by omega)
                  clear ht1 hc1' hl1 hc0 hc1 hc2' x0r x1r x2r
                  obtain ⟨nN, hnN⟩ : ∃ n : Nat, n = 1 + lN := ⟨_, rfl⟩
                  obtain ⟨dN, hdN⟩ : ∃ d : Nat, d = q + nN := ⟨_, rfl⟩
                  obtain ⟨b, hb⟩ : ∃ b, b = cN * 24 := ⟨_, rfl⟩
                  obtain ⟨a, ha⟩ : ∃ a, a = b + tN := ⟨_, rfl⟩
                  have en : (1 : Int) + (lN : Int) = (nN : Int) := by omega
                  have ed : (q : Int) + (nN : Int) = (dN : Int) := by omega
                  have cb : (cN : Int) * 24 = (b : Int) := by omega
                  have ab : (b : Int) + (tN : Int) = (a : Int) := by omega
                  have a48 : (a : Int) < 48 := by omega
                  have a48' : a < 48 := by omega
                  have b24 : b ≤ 24 := by omega
                  have n50 : nN ≤ 50 := by omega
                  have d150 : dN ≤ 150 := by omega
                  have HQD : Hid ((q : Int) + 1 ≤ dN ∧ (dN : Int) ≤ 150 ∧ 1 ≤ nN ∧ nN ≤ 50 ∧ cN < 2 ∧ tN < 24 ∧ a = cN * 24 + tN ∧ (q : Int) + nN = dN) := by show _ ∧ _; omega
                  have ca0 := HST.out.cell a48'
                  have hFa : F a = dz L cN tN := by have := HFL.out cN tN (by omega) (by omega); rwa [← hb, ← ha] at this
                  cases hf : fnd L cN tN with
                  | none =>
                    have hFz : F a = 0 := by rw [hFa, dz_none hf]
                    rw [hFz] at ca0
                    obtain ⟨L', hL'⟩ : ∃ L', L' = L ++ [⟨(cN : Int), (tN : Int), (dN : Int), ((T + 1 : Nat) : Int)⟩] := ⟨_, rfl⟩
                    have CS : Hid (∀ W, St w W p m db T L F → Calls Try.prog 10 #[.pointer (some ⟨p, 0, none⟩), .int .i64 cN, .int .i64 tN, .int .i64 q, .int .i64 nN] W fun r w'' => r = .returned (.bool true) ∧ St w w'' p m db (T + 1) L' F ∧ But (Own p m) W w'') := by
                      intro W hW
                      have hok : okS 2 L cN tN q = true := by rw [okS_is hW.hw.bp.gd (by omega) (by omega) (by omega), hf]; rfl
                      refine (send_any p m 2 T L cN tN q nN W hW.hw.bp (by have := HTQ.out; omega)).mono ?_
                      rintro r w'' ⟨rfl, h1, h2⟩
                      unfold turnS sent at h1
                      rw [if_pos hok, if_pos hok, wi_in (by omega) (by omega), HQD.out.2.2.2.2.2.2.2, ← hL'] at h1
                      exact ⟨by rw [hok], hW.turn h1 h2, h2⟩
                    have HFL2 : Hid (FL (fun j => if j = a then (dN : Int) else F j) L') := by
                      show FL _ _
                      rw [hL', HQD.out.2.2.2.2.2.2.1]
                      exact HFL.out.sent (by omega) (by omega) hf _ _
                    have HLO2 : Hid (Lo L' (q + 1) 0) := by
                      show Lo _ _ _
                      rw [hL']
                      exact HLO.out.sent HQD.out.1 HQD.out.2.1 (by omega)
                    have HTQ2 : Hid (T + 1 ≤ q + 1) := by show _ ≤ _; have := HTQ.out; omega
                    have HCA : Hid (∀ W, But No wr W → W.cell? ⟨db, a, none⟩ = some (.int .i64 0)) := fun W hb => cell_keep ca0 hb
                    have HCB : Hid (∀ W W', But No wr W → But (Own p m) W W' → W'.cell? ⟨db, a, none⟩ = some (.int .i64 0)) := fun W W' hb hb2 => by
                      have h0 := HCA.out W hb
                      rw [hb2.cell (World.block_lt_of_cell? W _ h0) HST.out.nd]; exact h0
                    clear hf hFa hFz hL' hnN hdN hb ha ca0 HFL HLO HTQ HTQ1 ht2 hc2'' hl2
                    go_wp2_with (first
                      | (go_at_call 9; ((with_reducible refine (CK0.out _).mono ?_); rintro e w2 ⟨rfl, rfl⟩))
                      | (go_at_call 9; ((with_reducible refine (CK1.out _).mono ?_); rintro e w2 ⟨rfl, rfl⟩))
                      | (go_at_call 9; ((with_reducible refine (CK2.out _).mono ?_); rintro e w2 ⟨rfl, rfl⟩)))
                    go_region_held3 (fun w' => w'.cell? ⟨db, a, none⟩ = some (.int .i64 0))
                      (first | exact HCA.out _ (But.refl No wr).drew | exact HCA.out _ (But.refl No wr) | exact HCB.out _ _ (But.refl No wr).drew hb5)
                      (first | (go_at_call 10; ((with_reducible refine (CS.out _ (HST.out.no (But.refl No wr).drew)).mono ?_); rintro e w5 ⟨rfl, hm5, hb5⟩)))
                    rename_i hHeld
                    have cw5 := hHeld
                    have HST5 := Lib.hid hm5
                    have fw5 := hm5.vs.frozen a
                    clear hHeld hm5 hb5 HST HCA HCB CS CK0 CK1 CK2 x0c x1c x2c
                    obtain ⟨w6, hw6⟩ : ∃ w6, w5.setCell ⟨db, a, none⟩ (.int .i64 dN) = w6 := ⟨_, rfl⟩
                    have HST : Hid (St w w6 p m db (T + 1) L' (fun j => if j = a then (dN : Int) else F j)) := by rw [← hw6]; exact HST5.out.set a dN
                    have HW6 := Lib.hid hw6
                    clear hw6 HST5
                    go_upto_region 36 with fail
                    rw [HW6.out]
                    clear cw5 fw5
                    have HFL := HFL2
                    have HLO := HLO2
                    have HTQ := HTQ2
                    clear HFL2 HLO2 HTQ2
                    have CL0 : Hid (∀ w', But No w6 w' → Calls Try.prog 16 #[.pointer (some ⟨p, 0, none⟩), .int .i64 0] w' fun e w'' => e = .returned (.int .i64 (cn L' 0)) ∧ But No w6 w'') := fun w' hb => (len_any p m 2 (T + 1) L' 0 w' (HST.out.no hb).hw.bp (by simp [inR])).mono (fun _ _ h => ⟨h.1, hb.trans h.2⟩)
                    have CL1 : Hid (∀ w', But No w6 w' → Calls Try.prog 16 #[.pointer (some ⟨p, 0, none⟩), .int .i64 1] w' fun e w'' => e = .returned (.int .i64 (cn L' 1)) ∧ But No w6 w'') := fun w' hb => (len_any p m 2 (T + 1) L' 1 w' (HST.out.no hb).hw.bp (by simp [inR])).mono (fun _ _ h => ⟨h.1, hb.trans h.2⟩)
                    have k0 := cn_24 HST.out.hw.bp.gd 0
                    have k1 := cn_24 HST.out.hw.bp.gd 1
                    generalize cn L' 0 = l0 at CL0 k0
                    generalize cn L' 1 = l1 at CL1 k1
                    have bl0 : decide ((24 : Int) < (l0 : Int)) = false := by simp; omega
                    have bl1 : decide ((24 : Int) < (l1 : Int)) = false := by simp; omega
                    have bl0' : decide (24 < l0) = false := by simp; omega
                    have bl1' : decide (24 < l1) = false := by simp; omega
                    have HNX : Hid (∀ w', But No w6 w' → Rel w w' p m db (q + 1) 0) := fun w' hb => ⟨(T + 1), L', _, HST.out.no hb, HFL.out, HLO.out, HTQ.out⟩
                    go_wp2_with (first
                      | (go_at_call 16; ((with_reducible refine (CL0.out _ (But.refl No w6)).mono ?_); rintro e wA ⟨rfl, hgA⟩; have HGA := Lib.hid hgA; clear hgA))
                      | (go_at_call 16; ((with_reducible refine (CL1.out _ HGA.out).mono ?_); rintro e wB ⟨rfl, hgB⟩; have HGB := Lib.hid hgB; clear hgB)))
                    exact ⟨⟨q + 1, by go_num, by omega, HNX.out _ HGB.out⟩, by simp [intOf]; omega⟩
                  | some nn =>
                    have hFz : ¬ F a = 0 := by
                      rw [hFa, dz_some hf]
                      have := (HST.out.hw.bp.gd.rng nn (fnd_some hf).1).2.2.2.2.1
                      omega
                    generalize F a = z at hFz ca0
                    have bz : (z == 0) = false := by simpa using hFz
                    have CS : Hid (∀ W, St w W p m db T L F → Calls Try.prog 10 #[.pointer (some ⟨p, 0, none⟩), .int .i64 cN, .int .i64 tN, .int .i64 q, .int .i64 nN] W fun r w'' => r = .returned (.bool false) ∧ St w w'' p m db T L F ∧ But (Own p m) W w'') := by
                      intro W hW
                      have hok : okS 2 L cN tN q = false := by rw [okS_is hW.hw.bp.gd (by omega) (by omega) (by omega), hf]; rfl
                      refine (send_any p m 2 T L cN tN q nN W hW.hw.bp (by have := HTQ.out; omega)).mono ?_
                      rintro r w'' ⟨rfl, h1, h2⟩
                      unfold turnS sent at h1
                      rw [hok] at h1
                      exact ⟨by rw [hok], hW.turn h1 h2, h2⟩
                    have HCA : Hid (∀ W, But No wr W → W.cell? ⟨db, a, none⟩ = some (.int .i64 z)) := fun W hb => cell_keep ca0 hb
                    have HCB : Hid (∀ W W', But No wr W → But (Own p m) W W' → W'.cell? ⟨db, a, none⟩ = some (.int .i64 z)) := fun W W' hb hb2 => by
                      have h0 := HCA.out W hb
                      rw [hb2.cell (World.block_lt_of_cell? W _ h0) HST.out.nd]; exact h0
                    clear hf hFa hFz hnN hdN hb ha ca0 HTQ ht2 hc2'' hl2
                    go_wp2_with (first
                      | (go_at_call 9; ((with_reducible refine (CK0.out _).mono ?_); rintro e w2 ⟨rfl, rfl⟩))
                      | (go_at_call 9; ((with_reducible refine (CK1.out _).mono ?_); rintro e w2 ⟨rfl, rfl⟩))
                      | (go_at_call 9; ((with_reducible refine (CK2.out _).mono ?_); rintro e w2 ⟨rfl, rfl⟩)))
                    go_region_held3 (fun w' => w'.cell? ⟨db, a, none⟩ = some (.int .i64 z))
                      (first | exact HCA.out _ (But.refl No wr).drew | exact HCA.out _ (But.refl No wr) | exact HCB.out _ _ (But.refl No wr).drew hb5)
                      (first | (go_at_call 10; ((with_reducible refine (CS.out _ (HST.out.no (But.refl No wr).drew)).mono ?_); rintro e w5 ⟨rfl, hm5, hb5⟩)))
                    rename_i hHeld
                    have cw5 := hHeld
                    clear HST
                    have HST := Lib.hid hm5
                    have HTQ := HTQ1
                    clear hHeld hm5 hb5 HCA HCB CS CK0 CK1 CK2 x0c x1c x2c HTQ1
                    go_upto_region 36 with fail
                    clear cw5
                    have CL0 : Hid (∀ w', But No w5 w' → Calls Try.prog 16 #[.pointer (some ⟨p, 0, none⟩), .int .i64 0] w' fun e w'' => e = .returned (.int .i64 (cn L 0)) ∧ But No w5 w'') := fun w' hb => (len_any p m 2 T L 0 w' (HST.out.no hb).hw.bp (by simp [inR])).mono (fun _ _ h => ⟨h.1, hb.trans h.2⟩)
                    have CL1 : Hid (∀ w', But No w5 w' → Calls Try.prog 16 #[.pointer (some ⟨p, 0, none⟩), .int .i64 1] w' fun e w'' => e = .returned (.int .i64 (cn L 1)) ∧ But No w5 w'') := fun w' hb => (len_any p m 2 T L 1 w' (HST.out.no hb).hw.bp (by simp [inR])).mono (fun _ _ h => ⟨h.1, hb.trans h.2⟩)
                    have k0 := cn_24 HST.out.hw.bp.gd 0
                    have k1 := cn_24 HST.out.hw.bp.gd 1
                    generalize cn L 0 = l0 at CL0 k0
                    generalize cn L 1 = l1 at CL1 k1
                    have bl0 : decide ((24 : Int) < (l0 : Int)) = false := by simp; omega
                    have bl1 : decide ((24 : Int) < (l1 : Int)) = false := by simp; omega
                    have bl0' : decide (24 < l0) = false := by simp; omega
                    have bl1' : decide (24 < l1) = false := by simp; omega
                    have HNX : Hid (∀ w', But No w5 w' → Rel w w' p m db (q + 1) 0) := fun w' hb => ⟨T, L, _, HST.out.no hb, HFL.out, HLO.out, HTQ.out⟩
                    go_wp2_with (first
                      | (go_at_call 16; ((with_reducible refine (CL0.out _ (But.refl No w5)).mono ?_); rintro e wA ⟨rfl, hgA⟩; have HGA := Lib.hid hgA; clear hgA))
                      | (go_at_call 16; ((with_reducible refine (CL1.out _ HGA.out).mono ?_); rintro e wB ⟨rfl, hgB⟩; have HGB := Lib.hid hgB; clear hgB)))
                    exact ⟨⟨q + 1, by go_num, by omega, HNX.out _ HGB.out⟩, by simp [intOf]; omega⟩
                · have gb3 : decide ((q : Int) < (n2 : Int)) = false := by simp; omega
                  have CL0 : Hid (∀ w', But No wr w' → Calls Try.prog 16 #[.pointer (some ⟨p, 0, none⟩), .int .i64 0] w' fun e w'' => e = .returned (.int .i64 (cn L 0)) ∧ But No wr w'') := fun w' hb => (len_any p m 2 T L 0 w' (HST.out.no hb).hw.bp (by simp [inR])).mono (fun _ _ h => ⟨h.1, hb.trans h.2⟩)
                  have CL1 : Hid (∀ w', But No wr w' → Calls Try.prog 16 #[.pointer (some ⟨p, 0, none⟩), .int .i64 1] w' fun e w'' => e = .returned (.int .i64 (cn L 1)) ∧ But No wr w'') := fun w' hb => (len_any p m 2 T L 1 w' (HST.out.no hb).hw.bp (by simp [inR])).mono (fun _ _ h => ⟨h.1, hb.trans h.2⟩)
                  have k0 := cn_24 HST.out.hw.bp.gd 0
                  have k1 := cn_24 HST.out.hw.bp.gd 1
                  generalize cn L 0 = l0 at CL0 k0
                  generalize cn L 1 = l1 at CL1 k1
                  have bl0 : decide ((24 : Int) < (l0 : Int)) = false := by simp; omega
                  have bl1 : decide ((24 : Int) < (l1 : Int)) = false := by simp; omega
                  have bl0' : decide (24 < l0) = false := by simp; omega
                  have bl1' : decide (24 < l1) = false := by simp; omega
                  have HNX : Hid (∀ w', But No wr w' → Rel w w' p m db (q + 1) 0) := fun w' hb => ⟨T, L, _, HST.out.no hb, HFL.out, HLO.out, HTQ1.out⟩
                  go_wp2_with (first
                    | (go_at_call 16; ((with_reducible refine (CL0.out _ (But.refl No wr)).mono ?_); rintro e wA ⟨rfl, hgA⟩; have HGA := Lib.hid hgA; clear hgA))
                    | (go_at_call 16; ((with_reducible refine (CL1.out _ HGA.out).mono ?_); rintro e wB ⟨rfl, hgB⟩; have HGB := Lib.hid hgB; clear hgB)))
                  exact ⟨⟨q + 1, by go_num, by omega, HNX.out _ HGB.out⟩, by simp [intOf]; omega⟩
              · have gb2 : decide ((q : Int) < (n1 : Int)) = false := by simp; omega
                have CL0 : Hid (∀ w', But No wr w' → Calls Try.prog 16 #[.pointer (some ⟨p, 0, none⟩), .int .i64 0] w' fun e w'' => e = .returned (.int .i64 (cn L 0)) ∧ But No wr w'') := fun w' hb => (len_any p m 2 T L 0 w' (HST.out.no hb).hw.bp (by simp [inR])).mono (fun _ _ h => ⟨h.1, hb.trans h.2⟩)
                have CL1 : Hid (∀ w', But No wr w' → Calls Try.prog 16 #[.pointer (some ⟨p, 0, none⟩), .int .i64 1] w' fun e w'' => e = .returned (.int .i64 (cn L 1)) ∧ But No wr w'') := fun w' hb => (len_any p m 2 T L 1 w' (HST.out.no hb).hw.bp (by simp [inR])).mono (fun _ _ h => ⟨h.1, hb.trans h.2⟩)
                have k0 := cn_24 HST.out.hw.bp.gd 0
                have k1 := cn_24 HST.out.hw.bp.gd 1
                generalize cn L 0 = l0 at CL0 k0
                generalize cn L 1 = l1 at CL1 k1
                have bl0 : decide ((24 : Int) < (l0 : Int)) = false := by simp; omega
                have bl1 : decide ((24 : Int) < (l1 : Int)) = false := by simp; omega
                have bl0' : decide (24 < l0) = false := by simp; omega
                have bl1' : decide (24 < l1) = false := by simp; omega
                have HNX : Hid (∀ w', But No wr w' → Rel w w' p m db (q + 1) 0) := fun w' hb => ⟨T, L, _, HST.out.no hb, HFL.out, HLO.out, HTQ1.out⟩
                go_wp2_with (first
                  | (go_at_call 16; ((with_reducible refine (CL0.out _ (But.refl No wr)).mono ?_); rintro e wA ⟨rfl, hgA⟩; have HGA := Lib.hid hgA; clear hgA))
                  | (go_at_call 16; ((with_reducible refine (CL1.out _ HGA.out).mono ?_); rintro e wB ⟨rfl, hgB⟩; have HGB := Lib.hid hgB; clear hgB)))
                exact ⟨⟨q + 1, by go_num, by omega, HNX.out _ HGB.out⟩, by simp [intOf]; omega⟩
            · have gb1 : decide ((q : Int) < (n0 : Int)) = false := by simp; omega
              have CL0 : Hid (∀ w', But No wr w' → Calls Try.prog 16 #[.pointer (some ⟨p, 0, none⟩), .int .i64 0] w' fun e w'' => e = .returned (.int .i64 (cn L 0)) ∧ But No wr w'') := fun w' hb => (len_any p m 2 T L 0 w' (HST.out.no hb).hw.bp (by simp [inR])).mono (fun _ _ h => ⟨h.1, hb.trans h.2⟩)
              have CL1 : Hid (∀ w', But No wr w' → Calls Try.prog 16 #[.pointer (some ⟨p, 0, none⟩), .int .i64 1] w' fun e w'' => e = .returned (.int .i64 (cn L 1)) ∧ But No wr w'') := fun w' hb => (len_any p m 2 T L 1 w' (HST.out.no hb).hw.bp (by simp [inR])).mono (fun _ _ h => ⟨h.1, hb.trans h.2⟩)
              have k0 := cn_24 HST.out.hw.bp.gd 0
              have k1 := cn_24 HST.out.hw.bp.gd 1
              generalize cn L 0 = l0 at CL0 k0
              generalize cn L 1 = l1 at CL1 k1
              have bl0 : decide ((24 : Int) < (l0 : Int)) = false := by simp; omega
              have bl1 : decide ((24 : Int) < (l1 : Int)) = false := by simp; omega
              have bl0' : decide (24 < l0) = false := by simp; omega
              have bl1' : decide (24 < l1) = false := by simp; omega
              have HNX : Hid (∀ w', But No wr w' → Rel w w' p m db (q + 1) 0) := fun w' hb => ⟨T, L, _, HST.out.no hb, HFL.out, HLO.out, HTQ1.out⟩
              go_wp2_with (first
                | (go_at_call 16; ((with_reducible refine (CL0.out _ (But.refl No wr)).mono ?_); rintro e wA ⟨rfl, hgA⟩; have HGA := Lib.hid hgA; clear hgA))
                | (go_at_call 16; ((with_reducible refine (CL1.out _ HGA.out).mono ?_); rintro e wB ⟨rfl, hgB⟩; have HGB := Lib.hid hgB; clear hgB)))
              exact ⟨⟨q + 1, by go_num, by omega, HNX.out _ HGB.out⟩, by simp [intOf]; omega⟩
          · have gb0 : decide ((q : Int) < 100) = false := by simp; omega
            have CL0 : Hid (∀ w', But No wr w' → Calls Try.prog 16 #[.pointer (some ⟨p, 0, none⟩), .int .i64 0] w' fun e w'' => e = .returned (.int .i64 (cn L 0)) ∧ But No wr w'') := fun w' hb => (len_any p m 2 T L 0 w' (HST.out.no hb).hw.bp (by simp [inR])).mono (fun _ _ h => ⟨h.1, hb.trans h.2⟩)
            have CL1 : Hid (∀ w', But No wr w' → Calls Try.prog 16 #[.pointer (some ⟨p, 0, none⟩), .int .i64 1] w' fun e w'' => e = .returned (.int .i64 (cn L 1)) ∧ But No wr w'') := fun w' hb => (len_any p m 2 T L 1 w' (HST.out.no hb).hw.bp (by simp [inR])).mono (fun _ _ h => ⟨h.1, hb.trans h.2⟩)
            have k0 := cn_24 HST.out.hw.bp.gd 0
            have k1 := cn_24 HST.out.hw.bp.gd 1
            generalize cn L 0 = l0 at CL0 k0
            generalize cn L 1 = l1 at CL1 k1
            have bl0 : decide ((24 : Int) < (l0 : Int)) = false := by simp; omega
            have bl1 : decide ((24 : Int) < (l1 : Int)) = false := by simp; omega
            have bl0' : decide (24 < l0) = false := by simp; omega
            have bl1' : decide (24 < l1) = false := by simp; omega
            have HNX : Hid (∀ w', But No wr w' → Rel w w' p m db (q + 1) 0) := fun w' hb => ⟨T, L, _, HST.out.no hb, HFL.out, HLO.out, HTQ1.out⟩
            go_wp2_with (first
              | (go_at_call 16; ((with_reducible refine (CL0.out _ (But.refl No wr)).mono ?_); rintro e wA ⟨rfl, hgA⟩; have HGA := Lib.hid hgA; clear hgA))
              | (go_at_call 16; ((with_reducible refine (CL1.out _ HGA.out).mono ?_); rintro e wB ⟨rfl, hgB⟩; have HGB := Lib.hid hgB; clear hgB)))
            exact ⟨⟨q + 1, by go_num, by omega, HNX.out _ HGB.out⟩, by simp [intOf]; omega⟩
    · obtain rfl : q = 200 := by omega
      obtain ⟨T, L, F, hst, hfl, hlo, htq⟩ := hrq.out
      have HL : Hid (L = []) := by
        cases L with
        | nil => exact rfl
        | cons n r =>
          have := hlo n (by simp)
          omega
      have HST := Lib.hid hst
      clear hst hfl hlo htq hrq
      have CL0 : Hid (∀ w', But No wr w' → Calls Try.prog 16 #[.pointer (some ⟨p, 0, none⟩), .int .i64 0] w' fun e w'' => e = .returned (.int .i64 0) ∧ But No wr w'') := fun w' hb => (len_any p m 2 T L 0 w' (HST.out.no hb).hw.bp (by simp [inR])).mono (fun _ _ h => ⟨by rw [h.1, HL.out]; rfl, hb.trans h.2⟩)
      have CL1 : Hid (∀ w', But No wr w' → Calls Try.prog 16 #[.pointer (some ⟨p, 0, none⟩), .int .i64 1] w' fun e w'' => e = .returned (.int .i64 0) ∧ But No wr w'') := fun w' hb => (len_any p m 2 T L 1 w' (HST.out.no hb).hw.bp (by simp [inR])).mono (fun _ _ h => ⟨by rw [h.1, HL.out]; rfl, hb.trans h.2⟩)
      go_wp2_with (first
        | (go_at_call 16; ((with_reducible refine (CL0.out _ (But.refl No wr)).mono ?_); rintro e wA ⟨rfl, hgA⟩; have HGA := Lib.hid hgA; clear hgA))
        | (go_at_call 16; ((with_reducible refine (CL1.out _ HGA.out).mono ?_); rintro e wB ⟨rfl, hgB⟩; have HGB := Lib.hid hgB; clear hgB)))
      go_ret
      exact ⟨rfl, HST.out.hw.but.trans HGB.out⟩
end ipiOnce
end Go.Proofs.Ytmfjlfemeihchaa
