/- Contracts of the specification's QuePut. -/
import Derived.Test.YtleajkacfhhemanSpecPush
import Derived.Test.YtleajkacfhhemanInv
namespace Go.Proofs.Ytleajkacfhheman
open Go.RowKit
set_option linter.unusedVariables false

end Go.Proofs.Ytleajkacfhheman
