/- The chapter's examples. -/
import Derived.Test.YtkgklgmkbkbeiaaC10
namespace Go.Proofs.Ytkgklgmkbkbeiaa
open Go.ChangeShapes Go.WideShapes Go.ChangeAt Go.RowKit Go.Deep
theorem eq_list {t : ByteArray} {l : List UInt8} (h : nl t = l.map UInt8.toNat) : (t.toList == l) = true := by
  have e : l = (⟨l.toArray⟩ : ByteArray).toList := by rw [ByteArray.toList_eq]
  rw [e, eqB]; exact decide_eq_true h
theorem ex_w : wErr [0, 127, 128, 300] = 0 ∧ wOut [0, 127, 128, 300] = [0, 127, 128, 1, 172, 2] := by
  have h : wErr [0, 127, 128, 300] = 0 := by decide +kernel
  refine ⟨h, ?_⟩
  unfold wOut
  rw [h, if_pos rfl]
  show enc7 0 ++ (enc7 127 ++ (enc7 128 ++ (enc7 300 ++ []))) = _
  rw [enc7_small (by omega), enc7_small (by omega), enc7_great (n := 128) (by omega), enc7_great (n := 300) (by omega), enc7_small (n := 128 / 128) (by omega), enc7_small (n := 300 / 128) (by omega)]
  rfl
theorem ex_r1 : rAll (nl ⟨#[128]⟩) = ([], 6) := by decide +kernel
theorem ex_r2 : rAll (nl ⟨#[128, 0]⟩) = ([], 8) := by decide +kernel
theorem ex_s : sErr (nl ⟨#[]⟩) = 0 ∧ sAns (nl ⟨#[]⟩) = [255, 255] := by decide +kernel
theorem ex_c : crc 65535 (nl ⟨#[49, 50, 51, 52, 53, 54, 55, 56, 57]⟩) = 10673 := by decide +kernel
theorem ex_rl (w : World) : Rl (w.alloc (.cells #[.int .i64 0, .int .i64 127, .int .i64 128, .int .i64 300] 3)) (some ⟨w.heap.size, 0, none⟩) 4 [0, 127, 128, 300] := by
  have hB := Blk.new w #[.int .i64 0, .int .i64 127, .int .i64 128, .int .i64 300] 3
  refine ⟨rfl, by omega, fun _ => ⟨w.heap.size, 0, rfl, hB.lt, fun k hk => ?_⟩⟩
  rw [Nat.zero_add]
  refine hB.cell ?_
  have : k = 0 ∨ k = 1 ∨ k = 2 ∨ k = 3 := by omega
  rcases this with rfl | rfl | rfl | rfl <;> rfl
set_option maxRecDepth 100000 in
set_option maxHeartbeats 1000000 in
theorem examples_any (w : World) : Calls Try.prog 10 #[] w fun e w' => e = .returned (.bool true) ∧ But No w w' := by
  have CW := Lib.hid (write_any (some ⟨w.heap.size, 0, none⟩) 4 4 [0, 127, 128, 300] (w.alloc (.cells #[.int .i64 0, .int .i64 127, .int .i64 128, .int .i64 300] 3)) (ex_rl w))
  rw [ex_w.1, ex_w.2] at CW
  have CR1 : ∀ W, Hid (Calls Try.prog 14 #[.string ⟨#[128]⟩] W (RetNums W 6 [])) := fun W => by have := read_any ⟨#[128]⟩ W (by decide); rw [ex_r1] at this; exact this
  have CR2 : ∀ W, Hid (Calls Try.prog 14 #[.string ⟨#[128, 0]⟩] W (RetNums W 8 [])) := fun W => by have := read_any ⟨#[128, 0]⟩ W (by decide); rw [ex_r2] at this; exact this
  have CS : ∀ W, Hid (Calls Try.prog 16 #[.string ⟨#[]⟩] W (RetStr W 0 [255, 255])) := fun W => by have := seal_any ⟨#[]⟩ W (by decide); rw [ex_s.1, ex_s.2] at this; exact this
  have CC : ∀ W, Hid (Calls Try.prog 20 #[.string ⟨#[49, 50, 51, 52, 53, 54, 55, 56, 57]⟩] W fun e w' => e = .returned (.int .u16 10673) ∧ W = w') := fun W => by have := sum_any ⟨#[49, 50, 51, 52, 53, 54, 55, 56, 57]⟩ W (by decide); rw [ex_c] at this; exact this
  go_enter Try.func10, Try.ntmps10
  go_wp2_with (first | (go_at_call 11; refine CW.out.mono ?_; rintro e w1 ⟨t1, rfl, ht1, hb1⟩; have hq1 : (t1.toList == [0, 127, 128, 1, 172, 2]) = true := eq_list ht1; have HB1 := Lib.hid hb1; clear ht1 hb1) | (go_at_call 14; ((with_reducible refine (CR1 _).out.mono ?_); rintro e w2 ⟨A2, n2, c2, rfl, hl2, ho2⟩; have HB2 := Lib.hid ho2.but; clear hl2 ho2)) | (go_at_call 14; ((with_reducible refine (CR2 _).out.mono ?_); rintro e w3 ⟨A3, n3, c3, rfl, hl3, ho3⟩; have HB3 := Lib.hid ho3.but; clear hl3 ho3)) | (go_at_call 16; refine (CS _).out.mono ?_; rintro e w4 ⟨t4, rfl, ht4, hb4⟩; have hq4 : (t4.toList == [255, 255]) = true := eq_list ht4; have HB4 := Lib.hid hb4; clear ht4 hb4) | (go_at_call 20; refine (CC _).out.mono ?_; rintro e w5 ⟨rfl, rfl⟩))
  go_ret
  exact ⟨rfl, ((((But.refl _ _).alloc _).trans HB1.out).trans HB2.out).trans (HB3.out.trans HB4.out)⟩
end Go.Proofs.Ytkgklgmkbkbeiaa
