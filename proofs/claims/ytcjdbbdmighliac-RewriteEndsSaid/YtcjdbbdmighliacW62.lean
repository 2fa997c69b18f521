
/- Walks: subst's fill. -/
import Derived.Test.YtcjdbbdmighliacW61
namespace Go.Proofs.Ytcjdbbdmighliac
open Go.RowKit
set_option linter.unusedSimpArgs false
set_option linter.unusedVariables false
set_option maxRecDepth 8000

end Go.Proofs.Ytcjdbbdmighliac
