/- The contract of List. -/
import Derived.Test.YtgocjgipigjhbaaR
import Derived.Deep.AppendLies
namespace Go.Proofs.Ytgocjgipigjhbaa
open Go.ChangeShapes Go.WideShapes Go.ChangeAt Go.RowKit
theorem info3 : (Try.prog.info? 3).map (fun i => (i.zero, i.size, i.bytes)) = some (some (.int .i64 0), 1, 8) := by kernel_rfl
/-- Those of the first m that are taken, rising. -/
def lst (f : Nat → Bool) : Nat → List Int
  | 0 => []
  | m + 1 => if f m then lst f m ++ [(m : Int)] else lst f m
theorem lst_len (f : Nat → Bool) : ∀ m, (lst f m).length = cnt f m
  | 0 => rfl
  | m + 1 => by
    have ih := lst_len f m
    show (if f m then lst f m ++ [(m : Int)] else lst f m).length = cnt f m + if f m then 1 else 0
    split
    · rw [List.length_append, ih]; rfl
    · rw [ih]; rfl
theorem lst_skip {f : Nat → Bool} {m : Nat} : ∀ {L : Nat}, m ≤ L → (∀ j, m ≤ j → j < L → f j = false) → lst f L = lst f m
  | 0, h, _ => by rw [Nat.le_zero.1 h]
  | L + 1, h, hf => by
    by_cases e : m = L + 1
    · rw [e]
    · show (if f L then lst f L ++ [(L : Int)] else lst f L) = _
      rw [hf L (by omega) (by omega), if_neg (by decide)]
      exact lst_skip (by omega) (fun j a b => hf j a (by omega))
theorem lst_hit {f : Nat → Bool} {m L : Nat} (h : m ≤ L) (hf : ∀ j, m ≤ j → j < L → f j = false) (hL : f L = true) : lst f (L + 1) = lst f m ++ [(L : Int)] := by
  show (if f L then lst f L ++ [(L : Int)] else lst f L) = _
  rw [if_pos hL, lst_skip h hf]
theorem cnt_hit {f : Nat → Bool} {m L : Nat} (h : m ≤ L) (hf : ∀ j, m ≤ j → j < L → f j = false) (hL : f L = true) : cnt f (L + 1) = cnt f m + 1 := by
  rw [← lst_len, lst_hit h hf hL, List.length_append, lst_len]; rfl
theorem lst_pre (f : Nat → Bool) {m : Nat} : ∀ {n : Nat}, m ≤ n → ∃ r, lst f n = lst f m ++ r
  | 0, h => ⟨[], by rw [Nat.le_zero.1 h]; rfl⟩
  | n + 1, h => by
    by_cases e : m = n + 1
    · exact ⟨[], by rw [e, List.append_nil]⟩
    · obtain ⟨r, hr⟩ := lst_pre f (m := m) (n := n) (by omega)
      show ∃ r, (if f n then lst f n ++ [(n : Int)] else lst f n) = _
      split
      · exact ⟨r ++ [(n : Int)], by rw [hr, List.append_assoc]⟩
      · exact ⟨r, hr⟩
theorem lst_get {f : Nat → Bool} {k n : Nat} (hk : k < n) (hf : f k = true) : (lst f n).getD (cnt f k) 0 = k ∧ cnt f k < (lst f n).length := by
  obtain ⟨r, hr⟩ := lst_pre f (m := k + 1) (n := n) (by omega)
  have h1 : lst f (k + 1) = lst f k ++ [(k : Int)] := by
    show (if f k then lst f k ++ [(k : Int)] else lst f k) = _
    rw [if_pos hf]
  rw [hr, h1]
  have hl := lst_len f k
  constructor
  · rw [List.getD, List.append_assoc, List.getElem?_append_right (by omega), hl]; simp
  · simp; omega
theorem lst_mem {f : Nat → Bool} : ∀ {m : Nat} {z : Int}, z ∈ lst f m ↔ ∃ j : Nat, z = j ∧ j < m ∧ f j = true
  | 0, z => by constructor
               · intro h; cases h
               · rintro ⟨j, _, h, _⟩; omega
  | m + 1, z => by
    have ih := lst_mem (f := f) (m := m) (z := z)
    show z ∈ (if f m then lst f m ++ [(m : Int)] else lst f m) ↔ _
    by_cases e : f m = true
    · rw [if_pos e, List.mem_append, ih]
      constructor
      · rintro (⟨j, h1, h2, h3⟩ | h)
        · exact ⟨j, h1, by omega, h3⟩
        · exact ⟨m, by simpa using h, by omega, e⟩
      · rintro ⟨j, h1, h2, h3⟩
        by_cases c : j = m
        · subst c; exact .inr (by simp [h1])
        · exact .inl ⟨j, h1, by omega, h3⟩
    · rw [if_neg e, ih]
      constructor
      · rintro ⟨j, h1, h2, h3⟩; exact ⟨j, h1, by omega, h3⟩
      · rintro ⟨j, h1, h2, h3⟩
        by_cases c : j = m
        · subst c; exact absurd h3 e
        · exact ⟨j, h1, by omega, h3⟩
def Q.list (s : Q) : List Int := lst s.has 256
theorem Q.list_len (s : Q) : s.list.length = s.count := lst_len _ _
theorem Q.count_le (s : Q) : s.count ≤ 256 := cnt_le _ _
def Row (w : World) (g n c : Nat) (zs : List Int) : Prop := w.ownsRow 0 3 1 (.slice (some ⟨g, 0, none⟩) n c) n (zs.map (Value.int .i64))
theorem Row.but {w w' : World} {g n c : Nat} {zs : List Int} {S : Nat → Prop} (h : Row w g n c zs) (hb : But S w w') (hs : ¬ S g) : Row w' g n c zs := by
  obtain ⟨h1, h2⟩ := h
  refine ⟨h1, ?_⟩
  rcases h2 with h2 | ⟨g', cap, cur, hv, hg, hh, hr⟩
  · exact .inl h2
  · cases hv
    have hl : g < w.heap.size := Blk.lt hh
    exact .inr ⟨g, c, cur, rfl, hg, by rw [hb.block g hl hs]; exact hh, hr⟩
theorem Row.lt {w : World} {g n c : Nat} {zs : List Int} (h : Row w g n c zs) : g < w.heap.size := by
  obtain ⟨h1, h2⟩ := h
  rcases h2 with ⟨h2, _⟩ | ⟨g', cap, cur, hv, hg, hh, hr⟩
  · cases h2
  · cases hv; exact Blk.lt hh
theorem Row.rd {w : World} {g n c : Nat} {zs : List Int} (h : Row w g n c zs) (hm : n ≤ 9223372036854775807) (hf : ∀ k, inR (zs.getD k 0)) : Rd w (some ⟨g, 0, none⟩) n zs := by
  obtain ⟨h1, h2⟩ := h
  have hl : zs.length = n := by simpa using h1
  rcases h2 with ⟨h2, _⟩ | ⟨g', cap, cur, hv, _, hh, hc, _, hs, ht⟩
  · cases h2
  · cases hv
    refine ⟨hl, hm, fun hn => ⟨g, 0, rfl, Blk.lt hh, fun k hk => ?_⟩, hf⟩
    rw [Nat.zero_add]
    refine Blk.cell hh ?_
    have e : (cur.toList.take (n * 1))[k]? = some (.int .i64 (zs.getD k 0)) := by
      rw [ht]
      have hk' : k < zs.length := by omega
      simp [hk']
    rw [List.getElem?_take, if_pos (by omega)] at e
    simpa using e
theorem one_news (w : World) (x : Int) : ∀ j u, [Value.int .i64 x][j]? = some u → (w.alloc (.cells #[.int .i64 x] 3)).cell? ((⟨w.heap.size, 0, none⟩ : Addr).add j) = some u :=
  World.news_of_block (cs := #[.int .i64 x]) (t := 3) (fr := (0, 0)) (Blk.new w _ _)
theorem lst_fit (f : Nat → Bool) (k : Nat) : inR ((lst f 256).getD k 0) := by
  by_cases h : k < (lst f 256).length
  · have e : (lst f 256).getD k 0 = (lst f 256)[k] := by simp [List.getD, List.getElem?_eq_getElem h]
    obtain ⟨j, h1, h2, _⟩ := lst_mem.1 (List.getElem_mem h)
    rw [e, h1]; unfold inR; omega
  · have : (lst f 256).getD k 0 = 0 := by simp only [List.getD]; rw [List.getElem?_eq_none (by omega)]; rfl
    rw [this]; unfold inR; omega
def ListEnd (w : World) (s : Q) (e : Ending) (w' : World) : Prop := ∃ g, e = .returned (.slice (some ⟨g, 0, none⟩) s.count s.count) ∧ Rd w' (some ⟨g, 0, none⟩) s.count s.list ∧ But No w w' ∧ w.heap.size ≤ g
def lenS : Value → Nat
  | .slice _ n _ => n
  | _ => 0
set_option maxHeartbeats 4000000 in
set_option maxRecDepth 100000 in
theorem list_any (s : Q) (w : World) (hs : s.ok) : Calls Try.prog 12 #[sv s] w (ListEnd w s) := by
  obtain ⟨w1, hw1, hb1, hp⟩ := box_new w s
  have HW1 := Lib.hid hw1
  have HB1 := Lib.hid hb1
  have HP1 := Lib.hid hp
  have c0 := hp.cell (o := 0) rfl
  have c1 := hp.cell (o := 1) rfl
  have c2 := hp.cell (o := 2) rfl
  have c3 := hp.cell (o := 3) rfl
  obtain ⟨i0, hi0, hz0, hz1, hz2⟩ := info_parts info3
  have I0 : Hid (Try.prog.info? 3 = some i0 ∧ i0.zero = some (.int .i64 0) ∧ i0.size = 1 ∧ i0.bytes = 8) := ⟨hi0, hz0, hz1, hz2⟩
  have CC : Hid (∀ w, Calls Try.prog 17 #[sv s] w fun e w' => e = .returned (.int .i64 s.count) ∧ But No w w') := fun w => count_any s w hs
  have CF : Hid (∀ w, Calls Try.prog 14 #[sv s] w fun e w' => e = .returned (.int .i64 s.first) ∧ But No w w') := fun w => first_any s w hs
  have CN : Hid (∀ w i, Calls Try.prog 16 #[sv s, .int .i64 i] w fun e w' => e = .returned (.int .i64 (s.next i)) ∧ But No w w') := fun w i => next_any s i w hs
  have hcn := s.count_le
  obtain ⟨C, hC⟩ : ∃ C, s.count = C := ⟨_, rfl⟩
  rw [hC] at CC hcn
  have HC := Lib.hid hC
  clear hi0 hz0 hz1 hz2 hw1 hb1 hp hC
  go_enter Try.func12, Try.ntmps12
  go_wp2_with (first
    | (go_at_call 17; rw [HW1.out]; (with_reducible refine (CC.out _).mono ?_); rintro e w2 ⟨rfl, hb2⟩; have HB2 := Lib.hid (HB1.out.trans hb2); have HP2 := Lib.hid (HP1.out.but hb2 (fun f => f)); clear hb2)
    | (at_make; refine wpList_make_own _ rfl _ _ 29 rfl 0 3 i0 _ 1 Try.underlying29 I0.out.1 I0.out.2.1 I0.out.2.2.1 .i64 .i64 _ C rfl rfl rfl (by rw [I0.out.2.2.2]; omega) (by unfold maxLen; omega) (Nat.zero_le _) ?_; intro w3 hown3 hgrow3; have hB3 : But No w2 w3 := (But.refl No w2).grown hgrow3 (fun k e => by cases e); have HB3 := Lib.hid (HB2.out.trans hB3); have HP3 := Lib.hid (HP2.out.but hB3 (fun f => f)); have HR3 : Hid (Row w3 w2.heap.size 0 C []) := hown3; have HG : Hid (w.heap.size < w2.heap.size) := HP2.out.lt; have k0 := HP3.out.cell (o := 0) rfl; have k1 := HP3.out.cell (o := 1) rfl; have k2 := HP3.out.cell (o := 2) rfl; have k3 := HP3.out.cell (o := 3) rfl; clear hown3 hgrow3 hB3)
    | (go_at_call 14; (with_reducible refine (CF.out _).mono ?_); rintro e w4 ⟨rfl, hb4⟩; have HB4 := Lib.hid (HB3.out.trans hb4); have HP4 := Lib.hid (HP3.out.but hb4 (fun f => f)); have HR4 := Lib.hid (HR3.out.but hb4 (fun f => f)); clear hb4))
  have H0 : Hid (s.first = scan s.has 0 (256 - 0)) := rfl
  have HR5 : Hid (Row w4 w2.heap.size (cnt s.has 0) C (lst s.has 0)) := HR4.out
  clear HR4 HR3 k0 k1 k2 k3 c0 c1 c2 c3
  go_loopw [3, 4] (fun t i wr => ∃ m n : Nat, m ≤ 256 ∧ n ≤ 256 ∧ t = .slice (some ⟨w2.heap.size, 0, none⟩) n C ∧ i = .int .i64 (scan s.has m (256 - m)) ∧ Hid (n = cnt s.has m) ∧ Hid (Row wr w2.heap.size n C (lst s.has m)) ∧ Hid (Blk wr w.heap.size (cells4 s) 26) ∧ Hid (But No w wr)) (fun t _ _ => 257 - lenS t)
  case atStart => exact ⟨0, 0, by omega, by omega, rfl, rfl, rfl, HR5, HP4, HB4⟩
  case round =>
    obtain ⟨m, n, hm, hn, rfl, rfl, hnc, hr, hp, hb⟩ := hrel
    rcases scan_is s.has (256 - m) m with ⟨h1, h2⟩ | ⟨L, h1, h2, h3, h4, h5⟩
    · rw [h1]
      have HE : Hid (ListEnd w s (.returned (.slice (some ⟨w2.heap.size, 0, none⟩) n C)) wr) := by
        have hl : lst s.has 256 = lst s.has m := lst_skip (by omega) (fun j a b => h2 j a (by omega))
        have hn2 : n = s.count := by
          rw [hnc.out, ← lst_len, ← hl, lst_len]; rfl
        refine ⟨w2.heap.size, by rw [← hn2, ← HC.out, hn2], ?_, hb.out, Nat.le_of_lt HG.out⟩
        have := hr.out.rd (by omega) (by rw [← hl]; exact lst_fit _)
        rw [← hl, hn2] at this
        exact this
      clear h1 h2
      go_wp2
      go_ret
      exact HE.out
    · rw [h1]
      have HN1 : Hid (cnt s.has (L + 1) = n + 1) := by show _ = _; rw [cnt_hit h2 h5 h4, hnc.out]
      have HL1 := Lib.hid (lst_hit h2 h5 h4)
      have hnC : n + 1 ≤ C := by
        rw [← HC.out, ← HN1.out]
        exact cnt_mono _ (by omega)
      have hL : L < 256 := by omega
      have HNX : Hid (s.next L = scan s.has (L + 1) (256 - (L + 1))) := by
        show _ = _
        unfold Q.next
        rw [if_neg (by omega)]; rfl
      have CN2 : Hid (∀ w, Calls Try.prog 16 #[sv s, .int .i64 L] w fun e w' => e = .returned (.int .i64 (s.next L)) ∧ But No w w') := fun w => CN.out w L
      rw [HNX.out] at CN2
      clear h1 h2 h3 h4 h5
      go_wp2_with (first
        | (at_builtin; refine wpList_append_fits _ rfl _ _ 29 rfl 0 3 i0 1 Try.underlying29 I0.out.1 I0.out.2.2.1 w2.heap.size n C ((lst s.has m).map (Value.int .i64)) rfl (hr.out.but (S := No) ((But.refl _ _).alloc _) (fun f => f)) ⟨wr.heap.size, 0, none⟩ 1 1 [.int .i64 L] rfl rfl (one_news wr L) (by simp [Value.oneCell']) (by omega) ?_; intro w5 hown5 hgrow5; have HB5 : Hid (But No w w5) := (hb.out.alloc _).grown hgrow5 (fun k e => .inr (by cases e; exact Nat.le_of_lt HG.out)); have HP5 : Hid (Blk w5 w.heap.size (cells4 s) 26) := (hp.out.but (S := No) ((But.refl _ _).alloc _) (fun f => f)).but (S := Just w2.heap.size) ((But.refl _ _).grown hgrow5 (fun k e => .inl (by cases e; rfl))) (by have := HG.out; show ¬ w.heap.size = w2.heap.size; omega); have HR5 : Hid (Row w5 w2.heap.size (n + 1) C (lst s.has (L + 1))) := (by rw [HL1.out]; unfold Hid Row; rw [List.map_append]; exact hown5); have k0 := HP5.out.cell (o := 0) rfl; have k1 := HP5.out.cell (o := 1) rfl; have k2 := HP5.out.cell (o := 2) rfl; have k3 := HP5.out.cell (o := 3) rfl; clear hown5 hgrow5)
        | (go_at_call 16; (with_reducible refine (CN2.out _).mono ?_); rintro e w6 ⟨rfl, hb6⟩; have HB6 := Lib.hid (HB5.out.trans hb6); have HP6 := Lib.hid (HP5.out.but hb6 (fun f => f)); have HR6 := Lib.hid (HR5.out.but hb6 (fun f => f)); clear hb6))
      go_roundw
      case rel => exact ⟨L + 1, n + 1, by omega, by omega, rfl, by rw [show 256 - (L + 1) = 255 - L by omega], HN1.out.symm, HR6, HP6, HB6⟩
      case measure => simp [lenS]; omega
end Go.Proofs.Ytgocjgipigjhbaa
