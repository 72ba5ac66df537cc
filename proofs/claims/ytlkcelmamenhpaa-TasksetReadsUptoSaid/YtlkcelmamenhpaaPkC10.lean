/- The contract of Open. -/
import Derived.Test.YtlkcelmamenhpaaPkC9
namespace Go.Proofs.Ytlkcelmamenhpaa
open Go.ChangeShapes Go.WideShapes Go.ChangeAt Go.RowKit Go.Deep
theorem quiet_left {P : Program} {f : FuncId} {args : Array Value} {w : World} {n : Nat} {v : Value}
    (h : Calls P f args (w.drewN n) fun e w' => e = .returned v ∧ w.drewN n = w') : Calls P f args (w.drewN n) fun e w'' => e = .returned v ∧ ∃ m, w'' = w.drewN m :=
  h.mono fun _ _ ⟨he, hm⟩ => ⟨he, n, hm.symm⟩
theorem index_run (s : ByteArray) (k : Nat) (h : k < s.size) (W : World) : (Instr.index 9 (.string s) (.int .i64 (k : Int))).run Try.prog W = .ok (.int .u8 ((nl s).getD k 0 : Nat)) W := by
  rw [run_index_string (P := Try.prog) W 9 s .i64 (k : Int) Try.underlying9, dif_pos ⟨by omega, by omega⟩, nl_at s k h]
  rfl
theorem to_run (s : ByteArray) (k : Nat) (h : k ≤ s.size) (W : World) : (Instr.slice 9 (.string s) none (some (.int .i64 (k : Int))) none).run Try.prog W = .ok (.string (s.extract 0 k)) W := by
  rw [run_slice_string_to_if (P := Try.prog) W 9 s .i64 (k : Int) Try.underlying9, if_pos ⟨by omega, by omega⟩]
  rfl
theorem getD_lt (s : ByteArray) (k : Nat) : (nl s).getD k 0 < 256 := by
  by_cases h : k < s.size
  · rw [nl_at s k h]; exact UInt8.toNat_lt _
  · rw [List.getD, List.getElem?_eq_none (by rw [nl_len]; omega)]; simp
set_option maxRecDepth 100000 in
set_option maxHeartbeats 1000000 in
theorem open_any (s : ByteArray) (w : World) (hs : s.size ≤ 9223372036854775807) : Calls Try.prog 15 #[.string s] w (RetStr w (oErr (nl s)) (oAns (nl s))) := by
  by_cases h2 : s.size < 2
  · have HE : Hid (oErr (nl s) = 6) := by
      show _ = _
      unfold oErr; rw [nl_len, if_pos h2]
    go_enter Try.func15, Try.ntmps15
    go_wp2
    go_ret2
    exact ⟨⟨#[]⟩, retse (by rw [HE.out]; rfl), by unfold oAns; rw [HE.out]; rfl, But.refl _ _⟩
  · by_cases hb : 100002 < s.size
    · have HE : Hid (oErr (nl s) = 7) := by
        show _ = _
        unfold oErr; rw [nl_len, if_neg h2, if_pos hb]
      go_enter Try.func15, Try.ntmps15
      go_wp2
      go_ret2
      exact ⟨⟨#[]⟩, retse (by rw [HE.out]; rfl), by unfold oAns; rw [HE.out]; rfl, But.refl _ _⟩
    · obtain ⟨n, hn⟩ : ∃ n, s.size = n + 2 := ⟨s.size - 2, by omega⟩
      have HO : Hid (oErr (nl s) = if crc 65535 ((nl s).take n) = (nl s).getD n 0 * 256 + (nl s).getD (n + 1) 0 then 0 else 9) := by
        show _ = _
        unfold oErr; rw [nl_len, if_neg h2, if_neg hb, show s.size - 2 = n by omega, show s.size - 1 = n + 1 by omega]
      have hx1 := index_run s n (by omega)
      have hx2 := index_run s (n + 1) (by omega)
      have hsl := to_run s n (by omega)
      have HT : Hid (nl (s.extract 0 n) = (nl s).take n) := by show _ = _; rw [nl_extract]; simp
      have hts : (s.extract 0 n).size = n := by rw [← nl_len, HT.out, List.length_take, nl_len]; omega
      have CS : ∀ W, Hid (Calls Try.prog 31 #[.string (s.extract 0 n)] W fun e w' => e = .returned (.int .u16 (crc 65535 ((nl s).take n) : Nat)) ∧ W = w') := fun W => by
        have := sum_any (s.extract 0 n) W (by omega)
        rw [HT.out] at this; exact this
      have HBT := Lib.hid (fun W => bytes_two (s.extract 0 n) W (by omega))
      have HTS := Lib.hid hts
      have hsz : (s.size : Int) - 2 = (n : Int) := by omega
      have hnb : n ≤ 100000 := by omega
      have HN := Lib.hid hn
      clear hts hn h2 hb
      generalize s.extract 0 n = t at *
      have ha := getD_lt s n
      have hb := getD_lt s (n + 1)
      have hv := crc_small ((nl s).take n)
      generalize crc 65535 ((nl s).take n) = v at *
      generalize (nl s).getD n 0 = a at *
      generalize (nl s).getD (n + 1) 0 = b at *
      obtain ⟨m, hm⟩ : ∃ m, n + 1 = m := ⟨_, rfl⟩
      have hw : IntKind.i64.wrap ((n : Int) + 1) = (m : Int) := by rw [IntKind.wrap_i64]; omega
      have hw0 : IntKind.i64.wrap (m : Int) = (m : Int) := by rw [IntKind.wrap_i64]; omega
      rw [hm] at hx2
      obtain ⟨y, hy⟩ : ∃ y, a * 256 + b = y := ⟨_, rfl⟩
      obtain ⟨p, hp⟩ : ∃ p, a * 256 = p := ⟨_, rfl⟩
      have hor : bits BinOp.or IntKind.u16 (p : Int) (b : Int) = (y : Int) := by
        have := u16_or_nat p b (by omega) (by omega)
        rw [this]
        have e := Nat.two_pow_add_eq_or_of_lt (i := 8) (b := b) (by omega) a
        rw [show 2 ^ 8 * a = p by omega] at e
        rw [← e]; omega
      have hu1 : IntKind.u16.wrap (a : Int) = (a : Int) := by rw [IntKind.wrap_u16]; omega
      have hu2 : IntKind.u16.wrap ((a : Int) * 256) = (p : Int) := by rw [IntKind.wrap_u16]; omega
      have hu3 : IntKind.u16.wrap (b : Int) = (b : Int) := by rw [IntKind.wrap_u16]; omega
      have hd0 : decide ((n : Int) < 0) = false := by simp
      have hd1 : decide ((100000 : Int) < (n : Int)) = false := by simp; omega
      rw [hy] at HO
      by_cases hq : v = y
      · have HE : Hid (oErr (nl s) = 0) := by show _ = _; rw [HO.out, if_pos hq]
        have HA : Hid (oAns (nl s) = (nl s).take n) := by show _ = _; unfold oAns; rw [HE.out, if_pos rfl, nl_len, HN.out]; rfl
        have hne : ((v : Int) != (y : Int)) = false := by simp [hq]
        clear hq hy hp hm
        go_enter Try.func15, Try.ntmps15
        go_wp2_with fail
        go_quiet ((go_at_call 31; exact quiet_left (CS _).out))
        generalize hwd : w.drewN nq = wd
        have HWD : Hid (But No w wd) := by rw [← hwd]; exact (But.refl _ _).drewN _
        clear hwd
        obtain ⟨A, c, W1, hcv, hbw, hbk, hj1, hj2⟩ := HBT.out wd
        clear hj1 hj2
        have HB1 := Lib.hid hbw
        clear hbw
        rw [HTS.out] at hcv hbk
        have HTT := Lib.hid (HTS.out)
        go_wp2
        go_ret2
        exact ⟨t, retse (by rw [HE.out]; rfl), by rw [HA.out]; exact HT.out, HWD.out.trans HB1.out⟩
      · have HE : Hid (oErr (nl s) = 9) := by show _ = _; rw [HO.out, if_neg hq]
        have hne : ((v : Int) != (y : Int)) = true := by rw [bne_iff_ne]; omega
        clear hq hy hp hm
        go_enter Try.func15, Try.ntmps15
        go_wp2_with fail
        go_quiet ((go_at_call 31; exact quiet_left (CS _).out))
        go_wp2
        go_ret2
        exact ⟨⟨#[]⟩, retse (by rw [HE.out]; rfl), by unfold oAns; rw [HE.out]; rfl, (But.refl _ _).drewN _⟩
end Go.Proofs.Ytlkcelmamenhpaa
