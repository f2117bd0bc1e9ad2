/- Contracts of eqMapMap, of the marks in entries, and of szMapMap. -/
import Derived.Test.YtcffoehldohooaaEnts
namespace Go.Proofs.Ytcffoehldohooaa
open Go.RowKit
set_option linter.unusedVariables false

end Go.Proofs.Ytcffoehldohooaa
