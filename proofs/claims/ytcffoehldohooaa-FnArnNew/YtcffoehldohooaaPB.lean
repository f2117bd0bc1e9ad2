/- Parts that speak of numbers alone: bounds, places, what is met twice, lists that grow. -/
import Derived.Test.YtcffoehldohooaaGD
import Derived.Deep.RegionHeldLaw
import Derived.Test.YtcffoehldohooaaShape
import Derived.Test.YtcffoehldohooaaCopy
import Derived.Test.YtcffoehldohooaaGC
import Derived.Test.YtcffoehldohooaaOkI2
import Derived.Test.YtcffoehldohooaaConcat2
import Derived.Test.YtcffoehldohooaaValsI
namespace Go.Proofs.Ytcffoehldohooaa
open Go.RowKit
set_option linter.unusedVariables false



















end Go.Proofs.Ytcffoehldohooaa
