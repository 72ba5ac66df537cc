/- The contract of ordered. -/
import Derived.Test.YtbfmoaojimimjaaHeP4
namespace Go.Proofs.Ytbfmoaojimimjaa.hea
open Go.ChangeShapes Go.WideShapes Go.ChangeAt Go.RowKit
def Srt (k : Nat) (A : Nat → It) : Prop := ∀ i j, i < j → j < k → Ah (A i) (A j)
/-- x stands at i, ahead of it those that were below i, behind it the others. -/
def insF (A : Nat → It) (i : Nat) (x : It) : Nat → It := fun j => if j < i then A j else if j = i then x else A (j - 1)
theorem insF_swap (A : Nat → It) (i : Nat) (x : It) (j : Nat) : insF A i x j = swp (insF A (i + 1) x) (i + 1) i j := by
  unfold swp upd insF
  by_cases h1 : j = i
  · subst h1; simp
  · by_cases h2 : j = i + 1
    · subst h2; simp; intro h; omega
    · by_cases h3 : j < i
      · simp [h1, h2, h3]; omega
      · simp [h1, h2, h3, show ¬ j < i + 1 by omega]
theorem insF_last (A : Nat → It) (k : Nat) (x : It) (j : Nat) (h : j < k + 1) : insF A k x j = upd A k x j := by
  unfold insF upd
  by_cases e : j = k
  · simp [e]
  · simp [e, show j < k by omega]
theorem insF_srt {A : Nat → It} {k i : Nat} {x : It} (hs : Srt k A) (hi : i ≤ k) (ha : ∀ j, i ≤ j → j < k → Ah x (A j)) (hb : ∀ j, j < i → Ah (A j) x) : Srt (k + 1) (insF A i x) := by
  intro a b hab hb'
  unfold insF
  by_cases h1 : b < i
  · rw [if_pos h1, if_pos (by omega)]; exact hs a b hab (by omega)
  · rw [if_neg h1]
    by_cases h2 : b = i
    · subst h2; rw [if_pos rfl, if_pos hab]; exact hb a hab
    · rw [if_neg h2]
      by_cases h3 : a < i
      · rw [if_pos h3]
        exact (hb a h3).trans (ha (b - 1) (by omega) (by omega))
      · rw [if_neg h3]
        by_cases h4 : a = i
        · subst h4; rw [if_pos rfl]; exact ha (b - 1) (by omega) (by omega)
        · rw [if_neg h4]; exact hs (a - 1) (b - 1) (by omega) (by omega)
theorem insF_same {A f : Nat → It} {k i : Nat} (hs : Same k f A) (hi : i ≤ k) : Same (k + 1) f (insF A i (f k)) := by
  intro y
  constructor
  · rintro ⟨j, hj, rfl⟩
    unfold insF
    by_cases h1 : j < i
    · rw [if_pos h1]
      obtain ⟨l, hl, e⟩ := (hs (A j)).1 ⟨j, by omega, rfl⟩
      exact ⟨l, by omega, e⟩
    · rw [if_neg h1]
      by_cases h2 : j = i
      · rw [if_pos h2]; exact ⟨k, by omega, rfl⟩
      · rw [if_neg h2]
        obtain ⟨l, hl, e⟩ := (hs (A (j - 1))).1 ⟨j - 1, by omega, rfl⟩
        exact ⟨l, by omega, e⟩
  · rintro ⟨l, hl, rfl⟩
    by_cases e : l = k
    · subst e; exact ⟨i, by omega, by unfold insF; simp⟩
    · obtain ⟨j, hj, ej⟩ := (hs (f l)).2 ⟨l, by omega, rfl⟩
      by_cases h1 : j < i
      · exact ⟨j, by omega, by unfold insF; rw [if_pos h1]; exact ej⟩
      · exact ⟨j + 1, by omega, by unfold insF; rw [if_neg (by omega), if_neg (by omega)]; exact ej⟩
structure Ord (w wr : World) (f : Nat → It) (k g cap : Nat) (B : Nat → It) : Prop where
  rw : Rw wr g cap k B
  srt : Srt k B
  same : Same k f B
  but : But No w wr
  lt : w.heap.size ≤ g
def OrdEnd (w : World) (f : Nat → It) (n : Nat) (e : Ending) (w' : World) : Prop := ∃ g cap B, e = .returned (.slice (some ⟨g, 0, none⟩) n cap) ∧ Ord w w' f n g cap B
def Tot (n : Nat) (f : Nat → It) : Prop := ∀ i j, i < n → j < n → i ≠ j → Ah (f i) (f j) ∨ Ah (f j) (f i)
structure OrdIn (w wr : World) (f : Nat → It) (k g cap : Nat) (B : Nat → It) (i : Nat) : Prop where
  rw : Rw wr g cap (k + 1) (insF B i (f k))
  srt : Srt k B
  same : Same k f B
  but : But No w wr
  lt : w.heap.size ≤ g
  ik : i ≤ k
  ah : ∀ j, i ≤ j → j < k → Ah (f k) (B j)
theorem OrdIn.done {w wr : World} {f : Nat → It} {n k g cap i : Nat} {B : Nat → It} (h : OrdIn w wr f k g cap B i) (ht : Tot n f) (hk : k < n) (hd : i = 0 ∨ ¬ Ah (f k) (B (i - 1))) : Ord w wr f (k + 1) g cap (insF B i (f k)) := by
  refine ⟨h.rw, insF_srt h.srt h.ik h.ah (fun j hj => ?_), insF_same h.same h.ik, h.but, h.lt⟩
  rcases hd with e | hd
  · omega
  · have hik := h.ik
    obtain ⟨l, hl, e⟩ := (h.same (B (i - 1))).1 ⟨i - 1, by omega, rfl⟩
    have h1 : Ah (B (i - 1)) (f k) := by
      rcases ht l k (by omega) hk (by omega) with h' | h'
      · rw [← e]; exact h'
      · rw [e] at h'; exact absurd h' hd
    by_cases ej : j = i - 1
    · rw [ej]; exact h1
    · exact (h.srt j (i - 1) (by omega) (by omega)).trans h1
theorem _root_.Go.Proofs.Ytbfmoaojimimjaa.But.put3NewH {S : Nat → Prop} {a b : World} (h : But S a b) {q : Nat} (hq : a.heap.size ≤ q) (i : Nat) (x : It) : But S a (hea.put3 b q i x) := ((h.setNew (p := ⟨q, _, none⟩) hq _).setNew (p := ⟨q, _, none⟩) hq _).setNew (p := ⟨q, _, none⟩) hq _
theorem s6 {wr w : World} {g cap n k j : Nat} {f : Nat → It} {x y : It} (h : Rw wr g cap n f) (hk : k < n) (hj : j < n) (hx : f k = x) (hy : f j = y) (hb : But No wr w) :
    w.cell? ⟨g, k * 3, none⟩ = some (.int .i64 x.id) ∧ w.cell? ⟨g, k * 3 + 1, none⟩ = some (.int .i64 x.key) ∧ w.cell? ⟨g, k * 3 + 2, none⟩ = some (.int .i64 x.turn) ∧
    w.cell? ⟨g, j * 3, none⟩ = some (.int .i64 y.id) ∧ w.cell? ⟨g, j * 3 + 1, none⟩ = some (.int .i64 y.key) ∧ w.cell? ⟨g, j * 3 + 2, none⟩ = some (.int .i64 y.turn) ∧ But No wr w := by
  have h' := h.but hb (fun f => f)
  obtain ⟨a, b, d⟩ := h'.cells hk
  obtain ⟨a', b', d'⟩ := h'.cells hj
  subst hx hy
  exact ⟨a, b, d, a', b', d', hb⟩
theorem ord_no {w wr w' : World} {f : Nat → It} {k g cap : Nat} {B : Nat → It} (h : Ord w wr f k g cap B) (hb : But No wr w') : Ord w w' f k g cap B :=
  ⟨h.rw.but hb (fun f => f), h.srt, h.same, h.but.trans hb, h.lt⟩
theorem ord_swap {w wr w3 : World} {f : Nat → It} {k g cap i j : Nat} {B : Nat → It} {x y : It} (h : OrdIn w wr f k g cap B i) (hj : i = j + 1) (hb : But No wr w3) (hx : insF B i (f k) i = x) (hy : insF B i (f k) j = y) (ha : Ah (f k) (B j)) :
    OrdIn w ((put3 (put3 w3 g i y) g j x).drew) f k g cap B j := by
  have hik := h.ik
  have hlt := h.lt
  have hs := h.but.size
  subst hj
  refine ⟨?_, h.srt, h.same, ?_, h.lt, by omega, fun l h1 h2 => ?_⟩
  · have h1 := ((h.rw.but hb (fun f => f)).put (i := j + 1) (by omega) y).put (i := j) (by omega) x
    have h2 : Rw (put3 (put3 w3 g (j + 1) y) g j x) g cap (k + 1) (insF B j (f k)) := h1.congr (fun l hl => by rw [insF_swap]; unfold swp; rw [hx, hy])
    exact h2.but (S := No) (But.refl No _).drew (fun f => f)
  · have hbb : But No w w3 := h.but.trans hb
    exact ((hbb.put3NewH hlt _ _).put3NewH hlt _ _).drew
  · by_cases e : l = j
    · rw [e]; exact ha
    · exact h.ah l (by omega) h2
theorem two_news (w : World) (x : It) : ∀ j u, [Value.int .i64 x.id, .int .i64 x.key, .int .i64 x.turn][j]? = some u → ((w.alloc (.cells #[.int .i64 x.id, .int .i64 x.key, .int .i64 x.turn] 67)).alloc (.cells #[.int .i64 x.id, .int .i64 x.key, .int .i64 x.turn] 67)).cell? ((⟨w.heap.size + 1, 0, none⟩ : Addr).add j) = some u := by
  have h := Blk.new (w.alloc (.cells #[.int .i64 x.id, .int .i64 x.key, .int .i64 x.turn] 67)) (c3 x) 67
  rw [show (w.alloc (.cells #[.int .i64 x.id, .int .i64 x.key, .int .i64 x.turn] 67)).heap.size = w.heap.size + 1 by simp] at h
  exact World.news_of_block (cs := c3 x) (t := 67) (fr := (0, 0)) h
theorem ord_app {w wr w2 : World} {f : Nat → It} {k g cap g2 cap2 : Nat} {B : Nat → It} {xs : List Value} {xa xb xc : Int} {o1 o2 : Obj} (h : Ord w wr f k g cap B) (hX : Xs xs k B) (hl : xs.length = k * 3) (hx : f k = ⟨xa, xb, xc⟩)
    (ho : w2.ownsRow 0 67 3 (.slice (some ⟨g2, 0, none⟩) (k + 1) cap2) (k + 1) (xs ++ [.int .i64 xa, .int .i64 xb, .int .i64 xc])) (hg : ((wr.alloc o1).alloc o2).grownBy w2 (Value.slice (some ⟨g, 0, none⟩) k cap).ownBlock)
    (hat : (Value.slice (some ⟨g, 0, none⟩) k cap).ownBlock = some g2 ∨ g2 = wr.heap.size + 2) : OrdIn w w2 f k g2 cap2 B k := by
  have hs := h.but.size
  have hlt := h.lt
  refine ⟨?_, h.srt, h.same, ?_, ?_, Nat.le_refl _, fun j h1 h2 => by omega⟩
  · refine (RowV.rw ⟨_, ho, fun i hi => ?_⟩ : Rw w2 g2 cap2 (k + 1) (upd B k (f k))).congr (fun i hi => insF_last B k (f k) i hi)
    by_cases e : i = k
    · subst e
      rw [upd_same, List.getElem?_append_right (by omega), List.getElem?_append_right (by omega), List.getElem?_append_right (by omega), hl]
      rw [show i * 3 - i * 3 = 0 by omega, show i * 3 + 1 - i * 3 = 1 by omega, show i * 3 + 2 - i * 3 = 2 by omega, hx]
      exact ⟨rfl, rfl, rfl⟩
    · rw [upd_other _ _ e, List.getElem?_append_left (by omega), List.getElem?_append_left (by omega), List.getElem?_append_left (by omega)]
      exact hX i (by omega)
  · refine ((h.but.alloc o1).alloc o2).grown hg (fun j e => .inr ?_)
    have : j = g := by simpa [Value.ownBlock] using e.symm
    omega
  · rcases hat with e | e
    · have : g = g2 := by simpa [Value.ownBlock] using e
      omega
    · omega
set_option maxHeartbeats 4000000 in
set_option maxRecDepth 100000 in
theorem ordered_any (A : Option Addr) (n c : Nat) (f : Nat → It) (w : World) (hv : RowV w (.slice A n c) n f) (hn : n ≤ 256) (tot : Tot n f) :
    Calls Try.prog 45 #[.slice A n c] w (OrdEnd w f n) := by
  have HV := Lib.hid hv
  have HT := Lib.hid tot
  obtain ⟨i0, hi0, hz0, hz1, hz2⟩ := info_parts infoT59
  have I0 : Hid (Try.prog.info? 67 = some i0 ∧ i0.zero = some (.agg #[.int .i64 0, .int .i64 0, .int .i64 0]) ∧ i0.size = 3 ∧ i0.bytes = 24) := ⟨hi0, hz0, hz1, hz2⟩
  clear hi0 hz0 hz1 hz2 hv tot
  go_enter Try.func45, Try.ntmps45
  go_wp2_with (at_make; refine wpList_make_own _ rfl _ _ 63 rfl 0 67 i0 _ 3 Try.underlying63 I0.out.1 I0.out.2.1 I0.out.2.2.1 .i64 .i64 _ n rfl rfl (by omega) (by rw [I0.out.2.2.2]; omega) (by unfold maxLen; omega) (Nat.zero_le _) ?_; intro w0 hown0 hgrow0)
  have S0 : Hid (Ord w w0 f 0 w.heap.size n (fun _ => ⟨0, 0, 0⟩)) :=
    ⟨RowV.rw ⟨[], hown0, fun i hi => absurd hi (by omega)⟩, fun i j h h' => absurd h' (by omega), fun x => ⟨fun ⟨k, hk, _⟩ => absurd hk (by omega), fun ⟨k, hk, _⟩ => absurd hk (by omega)⟩, (But.refl No w).grown hgrow0 (fun k e => by cases e), Nat.le_refl _⟩
  clear hown0 hgrow0
  go_loopw [3, 12] (fun s t wr => ∃ (k g cap : Nat) (B : Nat → It), s = .slice (some ⟨g, 0, none⟩) k cap ∧ t = .int .i64 k ∧ k ≤ n ∧ Hid (Ord w wr f k g cap B)) (fun _ t _ => n - (intOf t).toNat)
  case atStart => exact ⟨0, _, _, _, rfl, rfl, by omega, S0⟩
  case round =>
    obtain ⟨k, g, cap, B, rfl, rfl, hk, ho⟩ := hrel
    by_cases hlt : k < n
    · obtain ⟨q, c', hA, hq⟩ := HV.out.pos (by omega)
      cases hA
      obtain ⟨a0, a1, a2⟩ := (hq.but ho.out.but (fun f => f)).cells hlt
      have kn' : (k : Int) < (n : Int) := by omega
      obtain ⟨x, hx⟩ : ∃ x, f k = x := ⟨_, rfl⟩
      rw [hx] at a0 a1 a2
      have HX := Lib.hid hx
      clear hx hq
      obtain ⟨xa, xb, xc⟩ := x
      dsimp only at a0 a1 a2
      obtain ⟨xs, hown, hXs⟩ := ho.out.rw.rowV
      have ROW := Lib.hid (owns_but (S := No) hown (((But.refl No wr).alloc (.cells #[.int .i64 xa, .int .i64 xb, .int .i64 xc] 67)).alloc (.cells #[.int .i64 xa, .int .i64 xb, .int .i64 xc] 67)) (fun _ _ f => f))
      have HXS : Hid (Xs xs k B ∧ xs.length = k * 3) := ⟨hXs, hown.1⟩
      clear hown hXs
      go_wp2_with (at_builtin; refine wpList_append_lies _ rfl _ _ 63 rfl 0 67 i0 _ 3 24 Try.underlying63 I0.out.1 I0.out.2.1 I0.out.2.2.1 I0.out.2.2.2 rfl (by omega) _ k xs rfl ROW.out ⟨wr.heap.size + 1, 0, none⟩ 1 1 [.int .i64 xa, .int .i64 xb, .int .i64 xc] rfl rfl (two_news wr ⟨xa, xb, xc⟩) (by simp [Value.oneCell']) (by omega) (by unfold maxLen; omega) (by omega) (Nat.zero_le _) (wr.heap.size + 2) (by simp) ?_; intro g2 cap2 w2 hown2 hgrow2 hat2 hlt2)
      have S2 : Hid (OrdIn w w2 f k g2 cap2 B k) := ord_app ho.out HXS.out.1 HXS.out.2 HX.out hown2 hgrow2 hat2
      clear hown2 hgrow2 hat2 hlt2 ROW HXS ho a0 a1 a2
      go_loopw [6] (fun s wx => ∃ i : Nat, s = .int .i64 i ∧ i ≤ k ∧ Hid (OrdIn w wx f k g2 cap2 B i)) (fun s _ => (intOf s).toNat)
      case atStart => exact ⟨k, by go_num, by omega, S2⟩
      case round =>
        obtain ⟨i, rfl, hik, hoi⟩ := hrel
        have hi' : (i : Int) < (k : Int) + 1 := by omega
        by_cases h0 : i = 0
        · have HD : Hid (Ord w wr f (k + 1) g2 cap2 (insF B i (f k))) := hoi.out.done HT.out hlt (.inl h0)
          have b1 : decide ((0 : Int) < (i : Int)) = false := by simp; omega
          clear hoi S2
          go_wp2_with fail
          go_quiet (fail)
          go_wp2
          go_roundw
          case rel => exact ⟨k + 1, g2, cap2, _, rfl, by go_num, by omega, ord_no HD.out ((But.refl No wr).drewN nq)⟩
          case measure => simp [intOf]; omega
        · obtain ⟨j, hj⟩ : ∃ j, i = j + 1 := ⟨i - 1, by omega⟩
          have hji : j < i := by omega
          have hij : i ≤ j + 1 := by omega
          have HJ := Lib.hid hj
          have hpj : (i : Int) - 1 = (j : Int) := by omega
          have hjk : j < k + 1 := by omega
          have hik2 : i < k + 1 := by omega
          have hj' : (j : Int) < (k : Int) + 1 := by omega
          have b1 : decide ((0 : Int) < (i : Int)) = true := by simp; omega
          have b1' : (0 : Int) < (i : Int) := by omega
          have b2 : 0 < i := by omega
          have hj0 : (0 : Int) ≤ (j : Int) := by omega
          have b3 : decide (0 < i) = true := by simp; omega
          have HY : Hid (insF B i (f k) i = ⟨xa, xb, xc⟩) := by show _ = _; unfold insF; simp [HX.out]
          obtain ⟨y, hy⟩ : ∃ y, B j = y := ⟨_, rfl⟩
          have HZ : Hid (insF B i (f k) j = y) := by show _ = _; unfold insF; rw [if_pos (by omega)]; exact hy
          obtain ⟨ya, yb, yc⟩ := y
          by_cases ha : Ah ⟨xa, xb, xc⟩ ⟨ya, yb, yc⟩
          · have hb : Hid (ahB ⟨xa, xb, xc⟩ ⟨ya, yb, yc⟩ = true) := ahB_true ha
            have HN : Hid (∀ w3, But No wr w3 → OrdIn w ((put3 (put3 w3 g2 i ⟨ya, yb, yc⟩) g2 j ⟨xa, xb, xc⟩).drew) f k g2 cap2 B j) := by
              intro w3 hb3
              exact ord_swap hoi.out HJ.out hb3 HY.out HZ.out (by rw [HX.out, hy]; exact ha)
            have HR := Lib.hid hoi.out.rw
            clear ha hy hoi S2 hj
            have hwr : IntKind.i64.wrap ((i : Int) - 1) = (j : Int) := by rw [IntWalk.i64_in ((i : Int) - 1) (by omega)]; exact hpj
            have hwj : IntKind.i64.wrap (j : Int) = (j : Int) := IntWalk.i64_in (j : Int) (by omega)
            go_wp2_with fail
            go_region_held3 (fun w' => w'.cell? ⟨g2, i * 3, none⟩ = some (.int .i64 xa) ∧ w'.cell? ⟨g2, i * 3 + 1, none⟩ = some (.int .i64 xb) ∧ w'.cell? ⟨g2, i * 3 + 2, none⟩ = some (.int .i64 xc) ∧
                w'.cell? ⟨g2, j * 3, none⟩ = some (.int .i64 ya) ∧ w'.cell? ⟨g2, j * 3 + 1, none⟩ = some (.int .i64 yb) ∧ w'.cell? ⟨g2, j * 3 + 2, none⟩ = some (.int .i64 yc) ∧ But No wr w')
              (first | exact s6 HR.out hik2 hjk HY.out HZ.out (But.refl No wr).drew | exact s6 HR.out hik2 hjk HY.out HZ.out ((But.refl No wr).drew.trans hg2))
              (first | (go_at_call 46; ((with_reducible refine (ahead_any xa xb xc ya yb yc true hb.out _).mono ?_); rintro e w3 ⟨rfl, hg2⟩)))
            rename_i hHeld
            clear hHeld hwr hwj
            have HR2 := Lib.hid (HR.out.but ((But.refl No wr).drew.trans hg2) (fun f => f))
            have HN2 := Lib.hid (HN.out w3 ((But.refl No wr).drew.trans hg2))
            clear hg2
            obtain ⟨p0, p1, p2⟩ := HR2.out.cells hik2
            obtain ⟨q0, q1, q2⟩ := HR2.out.cells hjk
            rw [HY.out] at p0 p1 p2
            rw [HZ.out] at q0 q1 q2
            dsimp only at p0 p1 p2 q0 q1 q2
            have fi0 := HR2.out.frozen (i * 3)
            have fi1 := HR2.out.frozen (i * 3 + 1)
            have fi2 := HR2.out.frozen (i * 3 + 2)
            have fj0 := HR2.out.frozen (j * 3)
            have fj1 := HR2.out.frozen (j * 3 + 1)
            have fj2 := HR2.out.frozen (j * 3 + 2)
            have d00 : ¬ i * 3 = j * 3 := by omega
            have d01 : ¬ i * 3 = j * 3 + 1 := by omega
            have d02 : ¬ i * 3 = j * 3 + 2 := by omega
            have d10 : ¬ i * 3 + 1 = j * 3 := by omega
            have d12 : ¬ i * 3 + 1 = j * 3 + 2 := by omega
            have d20 : ¬ i * 3 + 2 = j * 3 := by omega
            have d21 : ¬ i * 3 + 2 = j * 3 + 1 := by omega
            have e00 : ¬ j * 3 = i * 3 := by omega
            have e01 : ¬ j * 3 = i * 3 + 1 := by omega
            have e02 : ¬ j * 3 = i * 3 + 2 := by omega
            have e10 : ¬ j * 3 + 1 = i * 3 := by omega
            have e12 : ¬ j * 3 + 1 = i * 3 + 2 := by omega
            have e20 : ¬ j * 3 + 2 = i * 3 := by omega
            have e21 : ¬ j * 3 + 2 = i * 3 + 1 := by omega
            have e11 : ¬ j = i := by omega
            have hwr : IntKind.i64.wrap ((i : Int) - 1) = (j : Int) := by rw [IntWalk.i64_in ((i : Int) - 1) (by omega)]; exact hpj
            have hwj : IntKind.i64.wrap (j : Int) = (j : Int) := IntWalk.i64_in (j : Int) (by omega)
            go_wp2_with fail
            go_region
            clear hwr hwj
            generalize hw4 : World.drew _ = w4
            have HN4 : Hid (OrdIn w w4 f k g2 cap2 B j) := by rw [← hw4]; exact HN2
            clear hw4 HN2
            go_wp2
            go_roundw
            case rel => exact ⟨j, rfl, by omega, HN4⟩
            case measure => simp [intOf]; omega
          · have hb : Hid (ahB ⟨xa, xb, xc⟩ ⟨ya, yb, yc⟩ = false) := ahB_false ha
            have HD : Hid (Ord w wr f (k + 1) g2 cap2 (insF B i (f k))) := hoi.out.done HT.out hlt (.inr (by rw [HX.out, HJ.out, Nat.add_sub_cancel, hy]; exact ha))
            have HR := Lib.hid hoi.out.rw
            clear ha hy hoi S2 hj
            have hwr : IntKind.i64.wrap ((i : Int) - 1) = (j : Int) := by rw [IntWalk.i64_in ((i : Int) - 1) (by omega)]; exact hpj
            have hwj : IntKind.i64.wrap (j : Int) = (j : Int) := IntWalk.i64_in (j : Int) (by omega)
            go_wp2_with fail
            go_region_held3 (fun w' => w'.cell? ⟨g2, i * 3, none⟩ = some (.int .i64 xa) ∧ w'.cell? ⟨g2, i * 3 + 1, none⟩ = some (.int .i64 xb) ∧ w'.cell? ⟨g2, i * 3 + 2, none⟩ = some (.int .i64 xc) ∧
                w'.cell? ⟨g2, j * 3, none⟩ = some (.int .i64 ya) ∧ w'.cell? ⟨g2, j * 3 + 1, none⟩ = some (.int .i64 yb) ∧ w'.cell? ⟨g2, j * 3 + 2, none⟩ = some (.int .i64 yc) ∧ But No wr w')
              (first | exact s6 HR.out hik2 hjk HY.out HZ.out (But.refl No wr).drew | exact s6 HR.out hik2 hjk HY.out HZ.out ((But.refl No wr).drew.trans hg2))
              (first | (go_at_call 46; ((with_reducible refine (ahead_any xa xb xc ya yb yc false hb.out _).mono ?_); rintro e w3 ⟨rfl, hg2⟩)))
            rename_i hHeld
            clear hHeld hwr hwj
            have HD2 := Lib.hid (ord_no HD.out ((But.refl No wr).drew.trans hg2))
            clear hg2
            go_wp2
            go_roundw
            case rel => exact ⟨k + 1, g2, cap2, _, rfl, by go_num, by omega, HD2⟩
            case measure => simp [intOf]; omega
    · obtain rfl : k = n := by omega
      go_wp2
      go_ret
      exact ⟨g, cap, B, rfl, ho.out⟩
end Go.Proofs.Ytbfmoaojimimjaa.hea
