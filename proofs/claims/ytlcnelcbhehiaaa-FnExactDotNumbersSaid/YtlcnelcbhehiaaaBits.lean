/- Contracts of the small functions on bits of floats. -/
import Derived.Test.YtlcnelcbhehiaaaChecked
import Derived.Test.YtlcnelcbhehiaaaPlainA
set_option linter.unusedVariables false
namespace Go.Proofs.Ytlcnelcbhehiaaa
open Go.RowKit


theorem cv_some {x : Nat} (h : nanB .f32 x = false) (w : World) : (convert 22 25 (.float .f32 x)).run Try.prog w = .ok (.float .f64 (wide x)) w :=
  run_convert_float_float w _ _ _ _ _ _ (by rw [Try.underlying22]; rfl) Try.underlying25 (wide_some h).1
theorem cv_nan {x : Nat} (h : nanB .f32 x = true) (w : World) : (convert 22 25 (.float .f32 x)).run Try.prog w = .ok (.float .f64 (nanOf (.nanConv .f64 x) w)) w.drew :=
  run_conv_nan _ _ _ _ _ (by rw [Try.underlying22]; rfl) Try.underlying25 (by decide) h w

/-- What BitsOf gives. -/
def bitsV (x : Nat) : Int := if nanB .f32 x then 2143289344 else x



end Go.Proofs.Ytlcnelcbhehiaaa
