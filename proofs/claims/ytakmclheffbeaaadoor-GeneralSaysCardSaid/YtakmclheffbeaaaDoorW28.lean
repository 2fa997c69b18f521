/- Walks: numbers out of raw numbers. -/
import Derived.Test.YtakmclheffbeaaaDoorZGeneralSaysOwn
import Derived.Deep.RegionHeld3
namespace Go.Proofs.YtakmclheffbeaaaDoor
open Go.RowKit
set_option linter.unusedSimpArgs false
set_option linter.unusedVariables false
set_option maxRecDepth 8000

end Go.Proofs.YtakmclheffbeaaaDoor
