
/- Walks: Fit, and what asks it. -/
import Derived.Test.YtakmclheffbeaaaDoorW96a
import Derived.Test.YtakmclheffbeaaaDoorW81
import Derived.Laws.EntriesVeiled
namespace Go.Proofs.YtakmclheffbeaaaDoor
open Go.RowKit
set_option linter.unusedSimpArgs false
set_option linter.unusedVariables false
set_option maxRecDepth 8000

end Go.Proofs.YtakmclheffbeaaaDoor
