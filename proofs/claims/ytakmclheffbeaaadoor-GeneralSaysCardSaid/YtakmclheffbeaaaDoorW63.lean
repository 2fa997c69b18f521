
/- Walks: Apply. -/
import Derived.Test.YtakmclheffbeaaaDoorW62
import Derived.Test.YtakmclheffbeaaaDoorW55
namespace Go.Proofs.YtakmclheffbeaaaDoor
open Go.RowKit
set_option linter.unusedSimpArgs false
set_option linter.unusedVariables false
set_option maxRecDepth 8000

end Go.Proofs.YtakmclheffbeaaaDoor
