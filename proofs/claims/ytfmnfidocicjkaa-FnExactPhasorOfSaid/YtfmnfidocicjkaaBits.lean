/- Contracts of the small functions on bits of floats. -/
import Derived.Test.YtfmnfidocicjkaaChecked
import Derived.Test.YtfmnfidocicjkaaPlainA
set_option linter.unusedVariables false
namespace Go.Proofs.Ytfmnfidocicjkaa
open Go.RowKit

@[go_sem] theorem ext_Float32frombits (x : Int) (w : World) : (callFunc 47 #[.int .u32 x]).run Try.prog w = .ok (.value (.float .f32 x.toNat)) w := by kernel_rfl
@[go_sem] theorem ext_Float64bits (x : Nat) (w : World) : (callFunc 49 #[.float .f64 x]).run Try.prog w = .ok (.value (.int .u64 x)) w := by kernel_rfl
@[go_sem] theorem ext_Float64frombits (x : Int) (w : World) : (callFunc 48 #[.int .u64 x]).run Try.prog w = .ok (.value (.float .f64 x.toNat)) w := by kernel_rfl

theorem cv_some {x : Nat} (h : nanB .f32 x = false) (w : World) : (convert 28 22 (.float .f32 x)).run Try.prog w = .ok (.float .f64 (wide x)) w :=
  run_convert_float_float w _ _ _ _ _ _ (by rw [Try.underlying28]; rfl) Try.underlying22 (wide_some h).1
theorem cv_nan {x : Nat} (h : nanB .f32 x = true) (w : World) : (convert 28 22 (.float .f32 x)).run Try.prog w = .ok (.float .f64 (nanOf (.nanConv .f64 x) w)) w.drew :=
  run_conv_nan _ _ _ _ _ (by rw [Try.underlying28]; rfl) Try.underlying22 (by decide) h w

/-- What BitsOf gives. -/
def bitsV (x : Nat) : Int := if nanB .f32 x then 2143289344 else x

theorem IsNaN_any (y : Nat) (w : World) : Calls Try.prog 40 #[.float .f64 y] w fun e w' => e = .returned (.bool (nanB .f64 y)) ∧ w = w' := by
  have ho := ne_self .f64 y
  go_enter Try.func40, Try.ntmps40
  go_wp2
  go_ret
  exact ⟨rfl, rfl⟩


end Go.Proofs.Ytfmnfidocicjkaa
