/- The walk of the law: the program's answer is the model's. -/
import Derived.Test.YtpafcgmjagjghaaBits
set_option linter.unusedVariables false
namespace Go.Proofs.Ytpafcgmjagjghaa.fnExactSameNumber
open Go.RowKit
theorem walk (a b : Nat) (w : World) (wa : (Lit.float .f32 a).wf = true) (wb : (Lit.float .f32 b).wf = true) : Calls Try.prog 3 #[.float .f32 a, .float .f32 b] w fun e w' => e = .returned (.bool true) ∧ Below w.heap.size w w' := by
  go_enter Try.func3, Try.ntmps3
  go_wp2_with fail
  refine (specSame_any a b _ wa wb).mono ?_
  rintro e w' ⟨rfl, rfl⟩
  go_wp2_with fail
  refine (implSame_any a b _ wa wb).mono ?_
  rintro e w' ⟨rfl, n, rfl⟩
  go_wp2_with fail
  go_ret
  exact ⟨rfl, below_drewN (Below.refl _ _) _⟩
end Go.Proofs.Ytpafcgmjagjghaa.fnExactSameNumber
