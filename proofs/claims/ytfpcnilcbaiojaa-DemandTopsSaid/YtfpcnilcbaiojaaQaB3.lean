/- The contracts of MulDiv, CeilDiv, Lcm and Cmp at answers that are named. -/
import Derived.Test.YtfpcnilcbaiojaaQaB2
namespace Go.Proofs.Ytfpcnilcbaiojaa.qar
open Go.ChangeShapes Go.WideShapes Go.ChangeAt Go.RowKit
theorem md_as (a b c x y : Int) (up : Bool) (ha : inR a) (hb : inR b) (hc : inR c) (h : Hid (x = mdV a b c up ∧ y = mdE a b c up)) (w : World) :
    Calls Try.prog 59 #[.int .i64 a, .int .i64 b, .int .i64 c, .bool up] w fun e w' => e = .returned (.tuple #[.int .i64 x, .int .i64 y]) ∧ Grew w w' :=
  (muldiv_any a b c up ha hb hc w).mono fun _ _ ⟨k, l⟩ => ⟨k.trans (ret2 h.out.1.symm h.out.2.symm), l⟩
theorem cd_as (a b x y : Int) (ha : inR a) (hb : inR b) (h : Hid (x = cdV a b ∧ y = cdE a b)) (w : World) :
    Calls Try.prog 48 #[.int .i64 a, .int .i64 b] w fun e w' => e = .returned (.tuple #[.int .i64 x, .int .i64 y]) ∧ w = w' :=
  (ceildiv_any a b ha hb w).mono fun _ _ ⟨k, l⟩ => ⟨k.trans (ret2 h.out.1.symm h.out.2.symm), l⟩
theorem md_in {a b c q : Int} {up : Bool} (h0 : 0 ≤ a) (h1 : 0 ≤ b) (h2 : 0 < c) (hq : mdQ a b c up = q) (h : inR q) : q = mdV a b c up ∧ 0 = mdE a b c up := by
  have g := md_good (up := up) h0 h1 h2
  rw [g.1, g.2, hq, exV_in h, exE_in h]; exact ⟨rfl, rfl⟩
theorem md_out {a b c q : Int} {up : Bool} (h0 : 0 ≤ a) (h1 : 0 ≤ b) (h2 : 0 < c) (hq : mdQ a b c up = q) (h : ¬ inR q) : 0 = mdV a b c up ∧ 2 = mdE a b c up := by
  have g := md_good (up := up) h0 h1 h2
  rw [g.1, g.2, hq, exV_out h, exE_out h]; exact ⟨rfl, rfl⟩
end Go.Proofs.Ytfpcnilcbaiojaa.qar
