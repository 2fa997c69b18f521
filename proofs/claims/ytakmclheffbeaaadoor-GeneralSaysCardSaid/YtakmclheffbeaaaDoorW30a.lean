/- Walks: a term out of raw numbers, and the law on all its places. -/
import Derived.Test.YtakmclheffbeaaaDoorW29
namespace Go.Proofs.YtakmclheffbeaaaDoor
open Go.RowKit
set_option linter.unusedSimpArgs false
set_option linter.unusedVariables false
set_option maxRecDepth 8000

end Go.Proofs.YtakmclheffbeaaaDoor
