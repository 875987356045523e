/- slices.ContainsFunc over numbers, with closures that only read. -/
import Derived.Test.YteagfbedbbnomaaAllP
set_option linter.unusedVariables false
namespace Go.Proofs.Yteagfbedbbnomaa
open Go.RowKit

end Go.Proofs.Yteagfbedbbnomaa
