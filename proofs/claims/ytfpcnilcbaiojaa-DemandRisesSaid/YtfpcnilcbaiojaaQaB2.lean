/- The contracts of Add, Sub and Mul where the answer is a number, and where it is none. -/
import Derived.Test.YtfpcnilcbaiojaaQaC4
import Derived.Test.YtfpcnilcbaiojaaQaC7
namespace Go.Proofs.Ytfpcnilcbaiojaa.qar
open Go.ChangeShapes Go.WideShapes Go.ChangeAt Go.RowKit
theorem add_in (a b : Int) (ha : inR a) (hb : inR b) (h : inR (a + b)) (w : World) :
    Calls Try.prog 46 #[.int .i64 a, .int .i64 b] w fun e w' => e = .returned (.tuple #[.int .i64 (a + b), .int .i64 0]) ∧ w = w' :=
  (add_any a b ha hb w).mono fun _ _ ⟨k, l⟩ => ⟨k.trans (ret2 (exV_in h) (exE_in h)), l⟩
theorem add_out (a b : Int) (ha : inR a) (hb : inR b) (h : ¬ inR (a + b)) (w : World) :
    Calls Try.prog 46 #[.int .i64 a, .int .i64 b] w fun e w' => e = .returned (.tuple #[.int .i64 0, .int .i64 2]) ∧ w = w' :=
  (add_any a b ha hb w).mono fun _ _ ⟨k, l⟩ => ⟨k.trans (ret2 (exV_out h) (exE_out h)), l⟩
theorem mul_in (a b : Int) (ha : inR a) (hb : inR b) (h : inR (a * b)) (w : World) :
    Calls Try.prog 47 #[.int .i64 a, .int .i64 b] w fun e w' => e = .returned (.tuple #[.int .i64 (a * b), .int .i64 0]) ∧ Grew w w' :=
  (mul_any a b ha hb w).mono fun _ _ ⟨k, l⟩ => ⟨k.trans (ret2 (exV_in h) (exE_in h)), l⟩
theorem mul_out (a b : Int) (ha : inR a) (hb : inR b) (h : ¬ inR (a * b)) (w : World) :
    Calls Try.prog 47 #[.int .i64 a, .int .i64 b] w fun e w' => e = .returned (.tuple #[.int .i64 0, .int .i64 2]) ∧ Grew w w' :=
  (mul_any a b ha hb w).mono fun _ _ ⟨k, l⟩ => ⟨k.trans (ret2 (exV_out h) (exE_out h)), l⟩
end Go.Proofs.Ytfpcnilcbaiojaa.qar
