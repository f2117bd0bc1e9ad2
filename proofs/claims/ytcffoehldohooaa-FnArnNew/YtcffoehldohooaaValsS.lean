/- The specification's l2Vals. -/
import Derived.Test.YtcffoehldohooaaValsI
namespace Go.Proofs.Ytcffoehldohooaa
open Go.RowKit
set_option linter.unusedVariables false

end Go.Proofs.Ytcffoehldohooaa
