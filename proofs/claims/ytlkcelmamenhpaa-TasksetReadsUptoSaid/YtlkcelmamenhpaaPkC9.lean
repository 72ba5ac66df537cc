/- The contracts of Seal and Open. -/
import Derived.Test.YtlkcelmamenhpaaPkC8
namespace Go.Proofs.Ytlkcelmamenhpaa
open Go.ChangeShapes Go.WideShapes Go.ChangeAt Go.RowKit Go.Deep
def sOut (l : List Nat) : List Nat := l ++ [crc 65535 l / 256, crc 65535 l % 256]
def sErr (l : List Nat) : Nat := if 100000 < l.length then 7 else 0
def sAns (l : List Nat) : List Nat := if 100000 < l.length then [] else sOut l
def oErr (l : List Nat) : Nat := if l.length < 2 then 6 else if 100002 < l.length then 7 else if crc 65535 (l.take (l.length - 2)) = l.getD (l.length - 2) 0 * 256 + l.getD (l.length - 1) 0 then 0 else 9
def oAns (l : List Nat) : List Nat := if oErr l = 0 then l.take (l.length - 2) else []
theorem crc_small (l : List Nat) : crc 65535 l < 65536 := crc_lt _ (by omega)
theorem sOut_lt (s : ByteArray) : ∀ b ∈ sOut (nl s), b < 256 := by
  intro b hb
  have := crc_small (nl s)
  unfold sOut at hb
  rcases List.mem_append.1 hb with h | h
  · exact nl_lt s b h
  · simp at h; omega
set_option maxRecDepth 100000 in
set_option maxHeartbeats 1000000 in
theorem seal_any (s : ByteArray) (w : World) (hs : s.size ≤ 9223372036854775807) : Calls Try.prog 18 #[.string s] w (RetStr w (sErr (nl s)) (sAns (nl s))) := by
  by_cases hb : 100000 < s.size
  · have HE : Hid (sErr (nl s) = 7 ∧ sAns (nl s) = []) := by
      refine ⟨?_, ?_⟩
      · unfold sErr; rw [nl_len, if_pos hb]
      · unfold sAns; rw [nl_len, if_pos hb]
    go_enter Try.func18, Try.ntmps18
    go_wp2
    go_ret2
    exact ⟨⟨#[]⟩, retse (by rw [HE.out.1]; rfl), by rw [HE.out.2]; rfl, But.refl _ _⟩
  · have HE : Hid (sErr (nl s) = 0 ∧ sAns (nl s) = sOut (nl s)) := by
      refine ⟨?_, ?_⟩
      · unfold sErr; rw [nl_len, if_neg hb]
      · unfold sAns; rw [nl_len, if_neg hb]
    have CS : ∀ W, Hid (Calls Try.prog 31 #[.string s] W fun e w' => e = .returned (.int .u16 (crc 65535 (nl s) : Nat)) ∧ W = w') := fun W => sum_any s W hs
    obtain ⟨A, c, W1, hcv, hbw, _, _, hap⟩ := bytes_two s w (by omega)
    obtain ⟨A2, n2, c2, W3, hr3, hc3, hb3⟩ := hap (crc 65535 (nl s) / 256) (crc 65535 (nl s) % 256)
    have HT : Hid (nl (bl (nl s ++ [crc 65535 (nl s) / 256, crc 65535 (nl s) % 256])) = sOut (nl s)) := nl_bl (sOut_lt s)
    generalize bl (nl s ++ [crc 65535 (nl s) / 256, crc 65535 (nl s) % 256]) = t at *
    have hv := crc_small (nl s)
    generalize crc 65535 (nl s) = v at *
    have HB3 := Lib.hid hb3
    have HR3 := Lib.hid hr3
    clear hb3 hbw hap hr3
    go_enter Try.func18, Try.ntmps18
    go_wp2_with (first | (go_at_call 31; refine (CS _).out.mono ?_; rintro e w' ⟨rfl, rfl⟩) | (at_builtin; refine wpList_append_run rfl _ _ 69 rfl _ _ rfl rfl HR3.out ?_))
    go_ret2
    exact ⟨t, retse (by rw [HE.out.1]; rfl), by rw [HE.out.2]; exact HT.out, HB3.out⟩
end Go.Proofs.Ytlkcelmamenhpaa
