/- Partners of calls and returns: the reference. -/
import Derived.Test.YtfpombhhnojjhaaPart0
import Derived.Laws.OwnMore
import Derived.OneCell
import Derived.WalkSmall
import Derived.Deep.RegionHeldLaw
set_option linter.unusedVariables false
set_option linter.unusedSimpArgs false
namespace Go.Proofs.Ytfpombhhnojjhaa
open Go.RowKit
end Go.Proofs.Ytfpombhhnojjhaa
