
/- Walks: bindings looked for by a closure. -/
import Derived.Test.YtakmclheffbeaaaDoorW56
namespace Go.Proofs.YtakmclheffbeaaaDoor
open Go.RowKit
set_option linter.unusedSimpArgs false
set_option linter.unusedVariables false
set_option maxRecDepth 8000

end Go.Proofs.YtakmclheffbeaaaDoor
