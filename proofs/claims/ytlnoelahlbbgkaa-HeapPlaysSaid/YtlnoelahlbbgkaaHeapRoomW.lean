/- A heap takes what is not there as long as there is room, and what is gone makes room: HeapRoom returns true. (The walk.) -/
import Derived.Test.YtlnoelahlbbgkaaD
namespace Go.Proofs.Ytlnoelahlbbgkaa
open Go.ChangeShapes Go.WideShapes Go.ChangeAt Go.RowKit
/-- Block b holds just the n values v 0, v 1, .. -/
def Cf (w : World) (b : Nat) (e : TypeId) (n : Nat) (v : Nat → Value) : Prop := Blk w b ((List.range n).map v).toArray e
theorem Cf.but {w w' : World} {b n : Nat} {e : TypeId} {v : Nat → Value} {S : Nat → Prop} (h : Cf w b e n v) (hb : But S w w') (hs : ¬ S b) : Cf w' b e n v := Blk.but h hb hs
theorem Cf.cell {w : World} {b n : Nat} {e : TypeId} {v : Nat → Value} (h : Cf w b e n v) {k : Nat} (hk : k < n) : w.cell? ⟨b, k, none⟩ = some (v k) := by
  refine Blk.cell h ?_
  simp [hk]
theorem Cf.set {w : World} {b n k : Nat} {e : TypeId} {v : Nat → Value} (h : Cf w b e n v) (x : Value) : Cf (w.setCell ⟨b, k, none⟩ x) b e n (fun j => if j = k then x else v j) := by
  have h1 := Blk.set h k x
  have e : (((List.range n).map v).toArray.setIfInBounds k x) = ((List.range n).map (fun j => if j = k then x else v j)).toArray := by
    apply Array.ext'
    apply List.ext_getElem?
    intro j
    simp only [List.setIfInBounds_toArray, List.getElem?_set, List.getElem?_map, List.length_map, List.length_range]
    by_cases hj : j < n
    · by_cases e : j = k
      · subst e; simp [hj]
      · simp [hj, e, Ne.symm e]
    · by_cases e : k = j
      · subst e; simp [hj]
      · simp [hj, e]
  show Blk _ _ _ _
  rw [← e]; exact h1
theorem Cf.congr {w : World} {b n : Nat} {e : TypeId} {v u : Nat → Value} (h : Cf w b e n v) (eq : ∀ j, j < n → u j = v j) : Cf w b e n u := by
  have : (List.range n).map u = (List.range n).map v := List.map_congr_left (fun j hj => eq j (List.mem_range.1 hj))
  unfold Cf; rw [this]; exact h
theorem cf_made {w : World} {b n : Nat} {e : TypeId} {z : Value} (h : w.ownsRow 0 e 1 (.slice (some ⟨b, 0, none⟩) n n) n (madeCells #[z] (n * 1)).toList) : Cf w b e n (fun _ => z) := by
  obtain ⟨h1, h2⟩ := h
  rcases h2 with ⟨h2, _⟩ | ⟨g, cap, cur, hv, _, hh, hn, hc, hs, ht⟩
  · cases h2
  · cases hv
    have e : cur = ((List.range n).map (fun _ => z)).toArray := by
      apply Array.ext'
      have e1 : cur.toList.take (n * 1) = cur.toList := List.take_of_length_le (by simp; omega)
      rw [e1] at ht
      rw [ht, toList_madeCells_one]
      apply List.ext_getElem?
      intro j
      by_cases hj : j < n
      · simp [hj]
      · simp [hj]
    show w.heap[b]? = _
    rw [hh, e]
theorem Cf.lt {w : World} {b n : Nat} {e : TypeId} {v : Nat → Value} (h : Cf w b e n v) : b < w.heap.size := Blk.lt h
theorem Cf.frozen {w : World} {b n : Nat} {e : TypeId} {v : Nat → Value} (h : Cf w b e n v) (k : Nat) : w.frozen? ⟨b, k, none⟩ = false := Blk.frozen h k
theorem info4 : (Try.prog.info? 4).map (fun i => (i.zero, i.size, i.bytes)) = some (some (.bool false), 1, 1) := by kernel_rfl
theorem hasI_ins (a : Int) (x : It) (L : List It) : hasI a (ins x L) = (decide (x.id = a) || hasI a L) := by
  cases h : hasI a (ins x L) with
  | true =>
    obtain ⟨y, hy, e⟩ := hasI_true h
    rcases mem_ins.1 hy with rfl | hy
    · simp [e]
    · simp [hasI_of hy e]
  | false =>
    have h' := hasI_false h
    have h1 : x.id ≠ a := h' x (mem_ins.2 (.inl rfl))
    have h2 : hasI a L = false := hasI_not (fun y hy => h' y (mem_ins.2 (.inr hy)))
    simp [h1, h2]
theorem hasI_rmv (a b : Int) {L : List It} (hn : L.Pairwise (fun a b => a.id ≠ b.id)) (hb : hasI b L = true) : hasI a (rmv b L) = (decide (a ≠ b) && hasI a L) := by
  have hm := hasI_true hb
  cases h : hasI a (rmv b L) with
  | true =>
    obtain ⟨y, hy, e⟩ := hasI_true h
    obtain ⟨h1, h2⟩ := (mem_rmv hn hm y).1 hy
    rw [e] at h2
    simp [h2, hasI_of h1 e]
  | false =>
    have h' := hasI_false h
    by_cases e : a = b
    · simp [e]
    · have h2 : hasI a L = false := hasI_not (fun y hy ey => h' y ((mem_rmv hn hm y).2 ⟨hy, by rw [ey]; exact e⟩) ey)
      simp [h2]
namespace heapRoom
structure RS (w wr : World) (p bi : Nat) (R : Int) (k : Nat) (S : Nat → Prop) (T : Int) (L : List It) (f : Nat → Bool) : Prop where
  hw : Hw w wr S p R T L
  cf : Cf wr bi 4 40 (fun j => .bool (f j))
  nb : ¬ S bi
  fe : ∀ j, j < 40 → f j = hasI j L
  t1 : T ≤ k
  bw : w.heap.size ≤ bi
def Rel (w wr : World) (p bi : Nat) (R : Int) (k ml : Nat) : Prop := ∃ S T L f, RS w wr p bi R k S T L f ∧ L.length = ml
theorem RS.stay {w wr w' : World} {p bi : Nat} {R : Int} {k : Nat} {S : Nat → Prop} {T : Int} {L : List It} {f : Nat → Bool} (h : RS w wr p bi R k S T L f) (hm : Mv wr S p R T L w') : ∃ S', RS w w' p bi R (k + 1) S' T L f := by
  obtain ⟨S', h1, h2, h3⟩ := h.hw.step hm
  exact ⟨S', h1, h.cf.but h2 h.nb, fun hk => (h3 bi hk).elim h.nb (fun g => by have := h.cf.lt; omega), h.fe, by have := h.t1; omega, h.bw⟩
theorem RS.store {w wr w' : World} {p bi t : Nat} {R : Int} {k : Nat} {S : Nat → Prop} {T T' : Int} {L L' : List It} {f : Nat → Bool} (b : Bool) (h : RS w wr p bi R k S T L f) (hm : Mv wr S p R T' L' w') (ht : T' ≤ T + 1) (hf : ∀ j, j < 40 → (if j = t then b else f j) = hasI j L') :
    ∃ S', RS w (w'.setCell ⟨bi, t, none⟩ (.bool b)) p bi R (k + 1) S' T' L' (fun j => if j = t then b else f j) := by
  obtain ⟨S', h1, h2, h3⟩ := h.hw.step hm
  have hn : ¬ S' bi := fun hk => (h3 bi hk).elim h.nb (fun g => by have := h.cf.lt; omega)
  have hb : But (Just bi) w' (w'.setCell ⟨bi, t, none⟩ (.bool b)) := (But.refl _ _).setCell (p := ⟨bi, t, none⟩) (just bi) _
  refine ⟨S', ⟨h1.hp.but hb (fun k hk e => hn (e ▸ hk)), h1.but.setNew (p := ⟨bi, t, none⟩) h.bw _, h1.new⟩, ?_, hn, hf, by have := h.t1; omega, h.bw⟩
  refine ((h.cf.but h2 h.nb).set (k := t) (.bool b)).congr (fun j hj => ?_)
  by_cases e : j = t
  · simp [e]
  · simp [e]
theorem cell_after {w wr w' : World} {p bi t : Nat} {R : Int} {k : Nat} {S : Nat → Prop} {T T' : Int} {L L' : List It} {f : Nat → Bool} (h : RS w wr p bi R k S T L f) (hm : Mv wr S p R T' L' w') (ht : t < 40) {b : Bool} (hb : hasI t L = b) :
    w'.cell? ⟨bi, t, none⟩ = some (.bool b) ∧ w'.frozen? ⟨bi, t, none⟩ = false := by
  obtain ⟨S', h1, h2, h3⟩ := h.hw.step hm
  have hc := h.cf.but h2 h.nb
  refine ⟨?_, hc.frozen t⟩
  rw [hc.cell ht, h.fe t ht, hb]
theorem len_after {w wr w' : World} {p bi ml : Nat} {R : Int} {k : Nat} {S : Nat → Prop} {T : Int} {L : List It} {f : Nat → Bool} (h : RS w wr p bi R k S T L f) (hm : Mv wr S p R T L w') (hl : L.length = ml) :
    Calls Try.prog 28 #[.pointer (some ⟨p, 0, none⟩)] w' fun r w'' => r = .returned (.int .i64 ml) ∧ w' = w'' := by
  obtain ⟨S', h'⟩ := h.stay hm
  have := len_any p R T L S' w' h'.hw.hp
  rw [hl] at this
  exact this
theorem pushE_of {R : Int} {L : List It} {a : Int} (h0 : 0 ≤ a) : (hasI a L = true → pushE R L a = 4) ∧ (hasI a L = false → R ≤ L.length → pushE R L a = 3) ∧ (hasI a L = false → L.length < R → pushE R L a = 0) := by
  unfold pushE
  refine ⟨fun h => ?_, fun h g => ?_, fun h g => ?_⟩
  · rw [if_neg (by omega), if_pos h]
  · rw [if_neg (by omega), if_neg (by rw [h]; simp), if_pos g]
  · rw [if_neg (by omega), if_neg (by rw [h]; simp), if_neg (by omega)]
set_option maxHeartbeats 4000000 in
set_option maxRecDepth 100000 in
theorem walk (a0 : Int) (w0 : (Lit.int .i64 a0).wf = true) (A : Option Addr) (n c : Nat) (kd di dk : Nat → Int) (w : World) (hd : RdD w A n kd di dk) :
    Calls Try.prog 7 #[.int .i64 a0, .slice A n c] w fun e w' => e = .returned (.bool true) ∧ But No w w' := by
  have k0 := pk_lt a0 257 (by omega)
  obtain ⟨r, hr⟩ : ∃ r : Nat, pk a0 257 = (r : Int) := ⟨(pk a0 257).toNat, by omega⟩
  have hr256 : r ≤ 256 := by omega
  have CP0 : Hid (∀ w, Calls Try.prog 12 #[.int .i64 a0, .int .i64 257] w fun e w' => e = .returned (.int .i64 (r : Int)) ∧ w = w') := fun w => by rw [← hr]; exact pick_any a0 257 w (inR_of w0) (by omega) (by omega)
  have HD := Lib.hid hd
  have hmax := hd.max
  obtain ⟨i0, hi0, hz0, hz1, hz2⟩ := info_parts info4
  have I0 : Hid (Try.prog.info? 4 = some i0 ∧ i0.zero = some (.bool false) ∧ i0.size = 1 ∧ i0.bytes = 1) := ⟨hi0, hz0, hz1, hz2⟩
  clear hi0 hz0 hz1 hz2 w0 hd k0 hr
  go_enter Try.func7, Try.ntmps7
  go_wp2_with (first
    | (go_at_call 9; refine (examples_any _).mono ?_; rintro e we ⟨rfl, hbe⟩; have HE := Lib.hid hbe; clear hbe)
    | (go_at_call 12; refine (CP0.out _).mono ?_; rintro e w2 ⟨rfl, rfl⟩)
    | (go_at_call 10; refine (new_ok (r : Int) _ (by omega) (by omega)).mono ?_; rintro e w1 ⟨rfl, hne⟩; have HN1 := Lib.hid hne; clear hne)
    | (at_make; refine wpList_make_full _ rfl _ _ 49 rfl 0 4 i0 _ 1 Try.underlying49 I0.out.1 I0.out.2.1 I0.out.2.2.1 .i64 .i64 _ _ 40 rfl rfl rfl rfl (by rw [I0.out.2.2.2]; omega) (by unfold maxLen; omega) (Nat.zero_le _) ?_; intro w2 hown2 hgrow2; have HOW := Lib.hid hown2; have HGR := Lib.hid hgrow2; clear hown2 hgrow2))
  have H1 : Hid (Rel w w2 (we.heap.size + 1) w1.heap.size r 0 0) := by
    obtain ⟨S, hp, hb, hs⟩ := HN1.out
    have hb2 : But No w1 w2 := (But.refl No w1).grown HGR.out (fun k e => by cases e)
    have hw : Hw w w1 S (we.heap.size + 1) r 0 [] := ⟨hp, HE.out.trans hb, fun k hk => Nat.le_trans HE.out.size (hs k hk)⟩
    exact ⟨S, 0, [], fun _ => false, ⟨hw.no hb2, cf_made HOW.out, fun hk => by have := hp.lt _ hk; omega, fun j _ => rfl, by omega, Nat.le_trans HE.out.size hb.size⟩, rfl⟩
  clear HN1 HGR HOW
  generalize hp : we.heap.size + 1 = p at H1 ⊢
  generalize hbi : w1.heap.size = bi at H1 ⊢
  clear hp hbi
  go_loopw [9, 10] (fun s9 s10 wr => ∃ ml k : Nat, s9 = .int .i64 ml ∧ s10 = .int .i64 k ∧ k ≤ n ∧ k ≤ 300 ∧ Hid (Rel w wr p bi r k ml)) (fun _ s _ => n - (intOf s).toNat)
  case atStart => exact ⟨0, 0, rfl, rfl, by omega, by omega, H1⟩
  case round =>
    obtain ⟨ml, k, rfl, rfl, hk, hk3, hrel⟩ := hrel
    clear H1
    obtain ⟨S, T, L, f, hs, hml⟩ := hrel.out
    have HS := Lib.hid hs
    have HML := Lib.hid hml
    have hml2 : (ml : Int) ≤ r := by rw [← hml]; exact hs.hw.hp.len
    have hT : T < 1000000 := by have := hs.t1; omega
    clear hs hml hrel
    by_cases hlt : k < n
    · by_cases hl3 : k < 300
      · obtain ⟨b, off, rfl, hbl, hc⟩ := (HD.out.no HS.out.hw.but).at_ (by omega)
        obtain ⟨c0, c1, c2⟩ := hc k hlt
        obtain ⟨f0, f1, f2⟩ := HD.out.fit k hlt
        have q1 := pk_lt (di k) 40 (by omega)
        have q0 := pk_lt (kd k) 2 (by omega)
        generalize hx0 : kd k = x0 at c0 f0 q0
        generalize hx1 : di k = x1 at c1 f1 q1
        generalize hx2 : dk k = x2 at c2 f2
        obtain ⟨t, ht⟩ : ∃ t : Nat, pk x1 40 = (t : Int) := ⟨(pk x1 40).toNat, by omega⟩
        have ht40 : t < 40 := by omega
        have ht40' : (t : Int) < 40 := by omega
        have CI : Hid (∀ w, Calls Try.prog 12 #[.int .i64 x1, .int .i64 40] w fun e w' => e = .returned (.int .i64 (t : Int)) ∧ w = w') := fun w => by rw [← ht]; exact pick_any x1 40 w f1 (by omega) (by omega)
        have kn' : (k : Int) < (n : Int) := by omega
        have k3' : (k : Int) < 300 := by omega
        have FI := Lib.hid f0
        clear hc hbl f0 f1 f2 hx0 hx1 hx2 q1 ht
        have PE := Lib.hid (pushE_of (R := (r : Int)) (L := L) (a := (t : Int)) (by omega))
        by_cases hk2 : pk x0 2 = 0
        · have CK : Hid (∀ w, Calls Try.prog 12 #[.int .i64 x0, .int .i64 2] w fun e w' => e = .returned (.int .i64 0) ∧ w = w') := fun w => by rw [← hk2]; exact pick_any x0 2 w FI.out (by omega) (by omega)
          clear hk2 q0
          cases hh : hasI t L with
          | true =>
            have HH := Lib.hid hh
            have CPU : Hid (Calls Try.prog 13 #[.pointer (some ⟨p, 0, none⟩), .int .i64 t, .int .i64 x2] wr fun e w' => e = .returned (.int .i64 4) ∧ Mv wr S p r T L w') := by
              have := push_any p r T L S wr t x2 (inR_small (by omega)) HS.out.hw.hp hT
              have e := PE.out.1 hh
              unfold pushT pushL at this
              rw [e] at this
              exact this
            clear hh
            go_wp2_with (first | (go_at_call 12; ((with_reducible refine (CI.out _).mono ?_); rintro e w2 ⟨rfl, rfl⟩)) | (go_at_call 12; ((with_reducible refine (CK.out _).mono ?_); rintro e w2 ⟨rfl, rfl⟩)) | (go_at_call 13; refine CPU.out.mono ?_; rintro e w3 ⟨rfl, hm⟩; obtain ⟨hcell, hfz⟩ := cell_after HS.out hm ht40 HH.out; have HM := Lib.hid hm; clear hm; have CL := Lib.hid (len_after HS.out HM.out HML.out)) | (go_at_call 28; refine CL.out.mono ?_; rintro e w4 ⟨rfl, rfl⟩))
            go_roundw
            case rel =>
              obtain ⟨S', h'⟩ := HS.out.stay HM.out
              exact ⟨ml, k + 1, rfl, by go_num, by omega, by omega, S', T, L, f, h', HML.out⟩
            case measure => simp [intOf]; omega
          | false =>
            have HH := Lib.hid hh
            by_cases hf : (r : Int) ≤ L.length
            · have hfd : decide ((ml : Int) < (r : Int)) = false := by rw [HML.out] at hf; simp; omega
              have hfd' : ¬ (ml : Int) < (r : Int) := by rw [HML.out] at hf; omega
              have CPU : Hid (Calls Try.prog 13 #[.pointer (some ⟨p, 0, none⟩), .int .i64 t, .int .i64 x2] wr fun e w' => e = .returned (.int .i64 3) ∧ Mv wr S p r T L w') := by
                have := push_any p r T L S wr t x2 (inR_small (by omega)) HS.out.hw.hp hT
                have e := PE.out.2.1 hh hf
                unfold pushT pushL at this
                rw [e] at this
                exact this
              clear hh hf
              go_wp2_with (first | (go_at_call 12; ((with_reducible refine (CI.out _).mono ?_); rintro e w2 ⟨rfl, rfl⟩)) | (go_at_call 12; ((with_reducible refine (CK.out _).mono ?_); rintro e w2 ⟨rfl, rfl⟩)) | (go_at_call 13; refine CPU.out.mono ?_; rintro e w3 ⟨rfl, hm⟩; obtain ⟨hcell, hfz⟩ := cell_after HS.out hm ht40 HH.out; have HM := Lib.hid hm; clear hm; have CL := Lib.hid (len_after HS.out HM.out HML.out)) | (go_at_call 28; refine CL.out.mono ?_; rintro e w4 ⟨rfl, rfl⟩))
              go_roundw
              case rel =>
                obtain ⟨S', h'⟩ := HS.out.stay HM.out
                exact ⟨ml, k + 1, rfl, by go_num, by omega, by omega, S', T, L, f, h', HML.out⟩
              case measure => simp [intOf]; omega
            · have hfd : decide ((ml : Int) < (r : Int)) = true := by rw [HML.out] at hf; simp; omega
              have hfd' : (ml : Int) < (r : Int) := by rw [HML.out] at hf; omega
              have CPU : Hid (Calls Try.prog 13 #[.pointer (some ⟨p, 0, none⟩), .int .i64 t, .int .i64 x2] wr fun e w' => e = .returned (.int .i64 0) ∧ Mv wr S p r (T + 1) (ins ⟨t, x2, T + 1⟩ L) w') := by
                have := push_any p r T L S wr t x2 (inR_small (by omega)) HS.out.hw.hp hT
                have e := PE.out.2.2 hh (by omega)
                unfold pushT pushL at this
                rw [e] at this
                exact this
              have HFN : Hid (∀ j, j < 40 → (if j = t then true else f j) = hasI j (ins ⟨t, x2, T + 1⟩ L)) := by
                intro j hj
                rw [hasI_ins, ← HS.out.fe j hj]
                by_cases e : j = t
                · simp [e]
                · simp [e, show ¬ (t : Int) = (j : Int) by omega]
              clear hh hf
              go_wp2_with (first | (go_at_call 12; ((with_reducible refine (CI.out _).mono ?_); rintro e w2 ⟨rfl, rfl⟩)) | (go_at_call 12; ((with_reducible refine (CK.out _).mono ?_); rintro e w2 ⟨rfl, rfl⟩)) | (go_at_call 13; refine CPU.out.mono ?_; rintro e w3 ⟨rfl, hm⟩; obtain ⟨hcell, hfz⟩ := cell_after HS.out hm ht40 HH.out; have HM := Lib.hid hm; clear hm; have HN := Lib.hid (HS.out.store (t := t) true HM.out (Int.le_refl _) HFN.out)) | (go_at_call 28; obtain ⟨S4, h4⟩ := HN.out; refine (len_any p r _ _ S4 _ h4.hw.hp).mono ?_; rintro e w4 ⟨rfl, rfl⟩; simp only [length_ins, HML.out]))
              go_roundw
              case rel =>
                obtain ⟨S', h'⟩ := HN.out
                exact ⟨ml + 1, k + 1, by go_num, by go_num, by omega, by omega, S', T + 1, _, _, h', by rw [length_ins, HML.out]⟩
              case measure => simp [intOf]; omega
        · have hk1 : pk x0 2 = 1 := by omega
          have CK : Hid (∀ w, Calls Try.prog 12 #[.int .i64 x0, .int .i64 2] w fun e w' => e = .returned (.int .i64 1) ∧ w = w') := fun w => by rw [← hk1]; exact pick_any x0 2 w FI.out (by omega) (by omega)
          clear hk2 hk1 q0
          cases hh : hasI t L with
          | true =>
            have HH := Lib.hid hh
            have CPU : Hid (Calls Try.prog 19 #[.pointer (some ⟨p, 0, none⟩), .int .i64 t] wr fun e w' => e = .returned (.int .i64 0) ∧ Mv wr S p r T (rmv t L) w') := by
              have := remove_any p r T L S wr t (inR_small (by omega)) HS.out.hw.hp
              unfold chE at this
              rw [hh] at this
              exact this
            have HFN : Hid (∀ j, j < 40 → (if j = t then false else f j) = hasI j (rmv t L)) := by
              intro j hj
              rw [hasI_rmv _ _ HS.out.hw.hp.nd hh, ← HS.out.fe j hj]
              by_cases e : j = t
              · simp [e]
              · simp [e, show ¬ (j : Int) = (t : Int) by omega]
            have HLN : Hid ((rmv t L).length + 1 = ml) := by show _ = _; rw [length_rmv (hasI_true hh)]; exact HML.out
            obtain ⟨ml1, hml1⟩ : ∃ m1, m1 = (rmv t L).length := ⟨_, rfl⟩
            have hml3 : (ml : Int) - 1 = (ml1 : Int) := by have := HLN.out; omega
            have HM1 := Lib.hid hml1
            clear hh hml1
            go_wp2_with (first | (go_at_call 12; ((with_reducible refine (CI.out _).mono ?_); rintro e w2 ⟨rfl, rfl⟩)) | (go_at_call 12; ((with_reducible refine (CK.out _).mono ?_); rintro e w2 ⟨rfl, rfl⟩)) | (go_at_call 19; refine CPU.out.mono ?_; rintro e w3 ⟨rfl, hm⟩; obtain ⟨hcell, hfz⟩ := cell_after HS.out hm ht40 HH.out; have HM := Lib.hid hm; clear hm; have HN := Lib.hid (HS.out.store (t := t) false HM.out (by omega) HFN.out)) | (go_at_call 28; obtain ⟨S4, h4⟩ := HN.out; refine (len_any p r _ _ S4 _ h4.hw.hp).mono ?_; rintro e w4 ⟨rfl, rfl⟩; simp only [← HM1.out]))
            go_roundw
            case rel =>
              obtain ⟨S', h'⟩ := HN.out
              exact ⟨ml1, k + 1, rfl, by go_num, by omega, by omega, S', T, _, _, h', HM1.out.symm⟩
            case measure => simp [intOf]; omega
          | false =>
            have HH := Lib.hid hh
            have CPU : Hid (Calls Try.prog 19 #[.pointer (some ⟨p, 0, none⟩), .int .i64 t] wr fun e w' => e = .returned (.int .i64 5) ∧ Mv wr S p r T L w') := by
              have := remove_any p r T L S wr t (inR_small (by omega)) HS.out.hw.hp
              unfold chE at this
              rw [hh, rmv_not (hasI_false hh)] at this
              exact this
            clear hh
            go_wp2_with (first | (go_at_call 12; ((with_reducible refine (CI.out _).mono ?_); rintro e w2 ⟨rfl, rfl⟩)) | (go_at_call 12; ((with_reducible refine (CK.out _).mono ?_); rintro e w2 ⟨rfl, rfl⟩)) | (go_at_call 19; refine CPU.out.mono ?_; rintro e w3 ⟨rfl, hm⟩; obtain ⟨hcell, hfz⟩ := cell_after HS.out hm ht40 HH.out; have HM := Lib.hid hm; clear hm; have CL := Lib.hid (len_after HS.out HM.out HML.out)) | (go_at_call 28; refine CL.out.mono ?_; rintro e w4 ⟨rfl, rfl⟩))
            go_roundw
            case rel =>
              obtain ⟨S', h'⟩ := HS.out.stay HM.out
              exact ⟨ml, k + 1, rfl, by go_num, by omega, by omega, S', T, L, f, h', HML.out⟩
            case measure => simp [intOf]; omega
      · have b1 : (k : Int) < (n : Int) := by omega
        have b2 : decide ((k : Int) < 300) = false := by simp; omega
        go_wp2
        go_ret
        exact ⟨rfl, HS.out.hw.but⟩
    · have b1 : decide ((k : Int) < (n : Int)) = false := by simp; omega
      go_wp2
      go_ret
      exact ⟨rfl, HS.out.hw.but⟩
end heapRoom
end Go.Proofs.Ytlnoelahlbbgkaa
