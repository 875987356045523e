/- slices.ContainsFunc over numbers, with closures that only read. -/
import Derived.Test.YtofpaolmfcdokaaAllP
set_option linter.unusedVariables false
namespace Go.Proofs.Ytofpaolmfcdokaa
open Go.RowKit

end Go.Proofs.Ytofpaolmfcdokaa
