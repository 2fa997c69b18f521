
/- Walks: bindings looked for by a closure. -/
import Derived.Test.YtcjdbbdmighliacZCRewriteEndsOwn
namespace Go.Proofs.Ytcjdbbdmighliac
open Go.RowKit
set_option linter.unusedSimpArgs false
set_option linter.unusedVariables false
set_option maxRecDepth 8000

end Go.Proofs.Ytcjdbbdmighliac
