/- Contracts and walks of the laws on single float32 numbers: the program answers as the model. -/
import Derived.Test.YtlcnelcbhehiaaaSameF
set_option linter.unusedVariables false
namespace Go.Proofs.Ytlcnelcbhehiaaa
open Go.RowKit

theorem same_wide {v : Nat} (h : nanB .f32 v = false) : Same64 (wide v) (wide v) := .inl ⟨rfl, (wide_some h).2⟩





end Go.Proofs.Ytlcnelcbhehiaaa
