/- Contracts of the specification's QuePut. -/
import Derived.Test.YtleajkacfhhemahSpecPush
import Derived.Test.YtleajkacfhhemahInv
namespace Go.Proofs.Ytleajkacfhhemah
open Go.RowKit
set_option linter.unusedVariables false

end Go.Proofs.Ytleajkacfhhemah
