/- Contracts of eqMapMap, of the marks in entries, and of szMapMap. -/
import Derived.Test.YtkfamlbalgolmaaEnts
namespace Go.Proofs.Ytkfamlbalgolmaa
open Go.RowKit
set_option linter.unusedVariables false

end Go.Proofs.Ytkfamlbalgolmaa
