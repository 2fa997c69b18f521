
/- Walks: Match, Variant, Encompasses. -/
import Derived.Test.YtakmclheffbeaaaDoorW96
import Derived.Test.YtakmclheffbeaaaDoorW94
namespace Go.Proofs.YtakmclheffbeaaaDoor
open Go.RowKit
set_option linter.unusedSimpArgs false
set_option linter.unusedVariables false
set_option maxRecDepth 8000

/-- Some knot of a list of terms is a case. -/
def hcL (p : Tm) (l : List Tm) : Bool := (preL l).any fun k => mtB p k
end Go.Proofs.YtakmclheffbeaaaDoor
