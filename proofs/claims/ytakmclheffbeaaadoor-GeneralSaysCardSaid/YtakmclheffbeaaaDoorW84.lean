
/- Walks: Then. -/
import Derived.Test.YtakmclheffbeaaaDoorPu0
import Derived.Test.YtakmclheffbeaaaDoorW83
import Derived.Test.YtakmclheffbeaaaDoorW81
import Derived.Test.YtakmclheffbeaaaDoorW64
namespace Go.Proofs.YtakmclheffbeaaaDoor
open Go.RowKit
set_option linter.unusedSimpArgs false
set_option linter.unusedVariables false
set_option maxRecDepth 8000

end Go.Proofs.YtakmclheffbeaaaDoor
