/- The contracts of the document's Seal and Open. -/
import Derived.Test.YtlkcelmamenhpaaPkC10
namespace Go.Proofs.Ytlkcelmamenhpaa
open Go.ChangeShapes Go.WideShapes Go.ChangeAt Go.RowKit Go.Deep
/-- A string, and whether it is one. -/
def RetStrB (w : World) (ok : Bool) (l : List Nat) (r : Ending) (w' : World) : Prop := ∃ t : ByteArray, r = .returned (.tuple #[.string t, .bool ok]) ∧ nl t = l ∧ But No w w'
theorem retsb {t : ByteArray} {a b : Bool} (h : a = b) : Ending.returned (.tuple #[.string t, .bool a]) = .returned (.tuple #[.string t, .bool b]) := by rw [h]
theorem two_conv (w : World) (x y : Nat) : (convert 69 9 (.slice (some ⟨w.heap.size, 0, none⟩) 2 2)).run Try.prog (w.alloc (.cells #[.int .u8 (x : Int), .int .u8 (y : Int)] 5)) = .ok (.string (bl [x, y])) (w.alloc (.cells #[.int .u8 (x : Int), .int .u8 (y : Int)] 5)) := by
  have hB := Blk.new w #[.int .u8 (x : Int), .int .u8 (y : Int)] 5
  exact conv_cells (ns := [x, y]) (fun i hi => by
    refine hB.cell ?_
    have : i = 0 ∨ i = 1 := by simp at hi; omega
    rcases this with rfl | rfl <;> rfl)
set_option maxRecDepth 100000 in
set_option maxHeartbeats 1000000 in
theorem rseal_any (s : ByteArray) (w : World) (hs : s.size ≤ 9223372036854775807) : Calls Try.prog 23 #[.string s] w (RetStrB w (decide (sErr (nl s) = 0)) (sAns (nl s))) := by
  by_cases hb : 100000 < s.size
  · have HE : Hid (sErr (nl s) = 7 ∧ sAns (nl s) = []) := by
      refine ⟨?_, ?_⟩
      · unfold sErr; rw [nl_len, if_pos hb]
      · unfold sAns; rw [nl_len, if_pos hb]
    go_enter Try.func23, Try.ntmps23
    go_wp2
    go_ret2
    exact ⟨⟨#[]⟩, retsb (by rw [HE.out.1]; rfl), by rw [HE.out.2]; rfl, But.refl _ _⟩
  · have HE : Hid (sErr (nl s) = 0 ∧ sAns (nl s) = sOut (nl s)) := by
      refine ⟨?_, ?_⟩
      · unfold sErr; rw [nl_len, if_neg hb]
      · unfold sAns; rw [nl_len, if_neg hb]
    have CS : ∀ W, Hid (Calls Try.prog 35 #[.string s] W fun e w' => e = .returned (.int .i64 (crc 65535 (nl s) : Nat)) ∧ W = w') := fun W => rsum_any s W hs
    have hv := crc_small (nl s)
    have HS : Hid (sOut (nl s) = nl s ++ [crc 65535 (nl s) / 256, crc 65535 (nl s) % 256]) := rfl
    generalize crc 65535 (nl s) = v at *
    have hcv := two_conv w (v / 256) (v % 256)
    have HT : Hid (nl (bl [v / 256, v % 256]) = [v / 256, v % 256]) := nl_bl (by intro b hb; simp at hb; omega)
    have ht : (bl [v / 256, v % 256]).size = 2 := by rw [← nl_len, HT.out]; rfl
    have ht' : (bl [v / 256, v % 256]).size ≤ 2 := by omega
    clear ht
    generalize bl [v / 256, v % 256] = t at *
    have e1 : (v : Int) / 256 = ((v / 256 : Nat) : Int) := by omega
    have e2 : (v : Int) % 256 = ((v % 256 : Nat) : Int) := by omega
    have e3 : ((v / 256 : Nat) : Int) % 256 = ((v / 256 : Nat) : Int) := by omega
    have e4 : ((v % 256 : Nat) : Int) % 256 = ((v % 256 : Nat) : Int) := by omega
    have f1 : v / 256 < 256 := by omega
    have f2 : v % 256 < 256 := by omega
    generalize v / 256 = x at *
    generalize v % 256 = y at *
    go_enter Try.func23, Try.ntmps23
    go_wp2_with (first | (go_at_call 35; refine (CS _).out.mono ?_; rintro e w' ⟨rfl, rfl⟩))
    go_ret2
    exact ⟨s ++ t, retsb (by rw [HE.out.1]; rfl), by rw [HE.out.2, HS.out, nl_append, HT.out], (But.refl _ _).alloc _⟩
set_option maxRecDepth 100000 in
set_option maxHeartbeats 1000000 in
theorem ropen_any (s : ByteArray) (w : World) (hs : s.size ≤ 9223372036854775807) : Calls Try.prog 24 #[.string s] w (RetStr w (oErr (nl s)) (oAns (nl s))) := by
  by_cases h2 : s.size < 2
  · have HE : Hid (oErr (nl s) = 6) := by
      show _ = _
      unfold oErr; rw [nl_len, if_pos h2]
    go_enter Try.func24, Try.ntmps24
    go_wp2
    go_ret2
    exact ⟨⟨#[]⟩, retse (by rw [HE.out]; rfl), by unfold oAns; rw [HE.out]; rfl, But.refl _ _⟩
  · by_cases hb : 100002 < s.size
    · have HE : Hid (oErr (nl s) = 7) := by
        show _ = _
        unfold oErr; rw [nl_len, if_neg h2, if_pos hb]
      go_enter Try.func24, Try.ntmps24
      go_wp2
      go_ret2
      exact ⟨⟨#[]⟩, retse (by rw [HE.out]; rfl), by unfold oAns; rw [HE.out]; rfl, But.refl _ _⟩
    · obtain ⟨n, hn⟩ : ∃ n, s.size = n + 2 := ⟨s.size - 2, by omega⟩
      have HO : Hid (oErr (nl s) = if crc 65535 ((nl s).take n) = (nl s).getD n 0 * 256 + (nl s).getD (n + 1) 0 then 0 else 9) := by
        show _ = _
        unfold oErr; rw [nl_len, if_neg h2, if_neg hb, show s.size - 2 = n by omega, show s.size - 1 = n + 1 by omega]
      have hx1 := index_run s n (by omega)
      have hx2 := index_run s (n + 1) (by omega)
      have hsl := to_run s n (by omega)
      have HT : Hid (nl (s.extract 0 n) = (nl s).take n) := by show _ = _; rw [nl_extract]; simp
      have hts : (s.extract 0 n).size = n := by rw [← nl_len, HT.out, List.length_take, nl_len]; omega
      have CS : ∀ W, Hid (Calls Try.prog 35 #[.string (s.extract 0 n)] W fun e w' => e = .returned (.int .i64 (crc 65535 ((nl s).take n) : Nat)) ∧ W = w') := fun W => by
        have := rsum_any (s.extract 0 n) W (by omega)
        rw [HT.out] at this; exact this
      have hsz : (s.size : Int) - 2 = (n : Int) := by omega
      have hnb : n ≤ 100000 := by omega
      have HN := Lib.hid hn
      clear hts hn h2 hb
      generalize s.extract 0 n = t at *
      have ha := getD_lt s n
      have hb := getD_lt s (n + 1)
      have hv := crc_small ((nl s).take n)
      generalize crc 65535 ((nl s).take n) = v at *
      generalize (nl s).getD n 0 = a at *
      generalize (nl s).getD (n + 1) 0 = b at *
      obtain ⟨m, hm⟩ : ∃ m, n + 1 = m := ⟨_, rfl⟩
      have hw : IntKind.i64.wrap ((n : Int) + 1) = (m : Int) := by rw [IntKind.wrap_i64]; omega
      have hw0 : IntKind.i64.wrap (m : Int) = (m : Int) := by rw [IntKind.wrap_i64]; omega
      rw [hm] at hx2
      obtain ⟨y, hy⟩ : ∃ y, a * 256 + b = y := ⟨_, rfl⟩
      obtain ⟨p, hp⟩ : ∃ p, a * 256 = p := ⟨_, rfl⟩
      have hu1 : IntKind.i64.wrap (a : Int) = (a : Int) := by rw [IntKind.wrap_i64]; omega
      have hu2 : IntKind.i64.wrap ((a : Int) * 256) = (p : Int) := by rw [IntKind.wrap_i64]; omega
      have hu3 : IntKind.i64.wrap (b : Int) = (b : Int) := by rw [IntKind.wrap_i64]; omega
      have hu4 : IntKind.i64.wrap ((p : Int) + (b : Int)) = (y : Int) := by rw [IntKind.wrap_i64]; omega
      have hu5 : IntKind.i64.wrap (y : Int) = (y : Int) := by rw [IntKind.wrap_i64]; omega
      have hu6 : IntKind.i64.wrap (p : Int) = (p : Int) := by rw [IntKind.wrap_i64]; omega
      have hd0 : decide ((n : Int) < 0) = false := by simp
      have hd1 : decide ((100000 : Int) < (n : Int)) = false := by simp; omega
      rw [hy] at HO
      by_cases hq : v = y
      · have HE : Hid (oErr (nl s) = 0) := by show _ = _; rw [HO.out, if_pos hq]
        have HA : Hid (oAns (nl s) = (nl s).take n) := by show _ = _; unfold oAns; rw [HE.out, if_pos rfl, nl_len, HN.out]; rfl
        have hne : ((y : Int) != (v : Int)) = false := by simp [hq]
        clear hq hy hp hm
        go_enter Try.func24, Try.ntmps24
        go_wp2_with fail
        go_quiet ((go_at_call 35; exact quiet_left (CS _).out))
        go_wp2
        go_ret2
        exact ⟨t, retse (by rw [HE.out]; rfl), by rw [HA.out]; exact HT.out, (But.refl _ _).drewN _⟩
      · have HE : Hid (oErr (nl s) = 9) := by show _ = _; rw [HO.out, if_neg hq]
        have hne : ((y : Int) != (v : Int)) = true := by rw [bne_iff_ne]; omega
        clear hq hy hp hm
        go_enter Try.func24, Try.ntmps24
        go_wp2_with fail
        go_quiet ((go_at_call 35; exact quiet_left (CS _).out))
        go_wp2
        go_ret2
        exact ⟨⟨#[]⟩, retse (by rw [HE.out]; rfl), by unfold oAns; rw [HE.out]; rfl, (But.refl _ _).drewN _⟩
end Go.Proofs.Ytlkcelmamenhpaa
