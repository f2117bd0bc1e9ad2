/- Contracts of eqMapMap, of the marks in entries, and of szMapMap. -/
import Derived.Test.YtleajkacfhhemagEnts
namespace Go.Proofs.Ytleajkacfhhemag
open Go.RowKit
set_option linter.unusedVariables false

end Go.Proofs.Ytleajkacfhhemag
