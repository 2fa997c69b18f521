
/- Walks: Fit. -/
import Derived.Test.YtakmclheffbeaaaDoorW95
import Derived.Test.YtakmclheffbeaaaDoorW94a
import Derived.Test.YtakmclheffbeaaaDoorW93
import Derived.Laws.EntriesVeiled
namespace Go.Proofs.YtakmclheffbeaaaDoor
open Go.RowKit
set_option linter.unusedSimpArgs false
set_option linter.unusedVariables false
set_option maxRecDepth 8000

end Go.Proofs.YtakmclheffbeaaaDoor
