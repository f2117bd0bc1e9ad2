/- Contracts of ListFirst, of the specification's and of the program's. -/
import Derived.Test.YtleajkacfhhemahInv
namespace Go.Proofs.Ytleajkacfhhemah
open Go.RowKit
set_option linter.unusedVariables false

/-- What ListFirst answers. -/
def firstC (zs : List Int) : Int := if zs.length = 0 then 1 else 2
def firstV (zs : List Int) : Int := zs.headD 0

end Go.Proofs.Ytleajkacfhhemah
