/- Walks: bindings out of raw numbers. -/
import Derived.Test.YtakmclheffbeaaaDoorW30a
import Derived.Test.YtakmclheffbeaaaDoorZGeneralSaysOwn
import Derived.Test.YtakmclheffbeaaaDoorBmE
namespace Go.Proofs.YtakmclheffbeaaaDoor
open Go.RowKit
set_option linter.unusedSimpArgs false
set_option linter.unusedVariables false
set_option maxRecDepth 8000

end Go.Proofs.YtakmclheffbeaaaDoor
