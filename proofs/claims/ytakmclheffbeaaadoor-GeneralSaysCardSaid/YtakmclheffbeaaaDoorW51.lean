/- Walks: how great a term would be with bindings in it. -/
import Derived.Test.YtakmclheffbeaaaDoorOnM
import Derived.Test.YtakmclheffbeaaaDoorW50
namespace Go.Proofs.YtakmclheffbeaaaDoor
open Go.RowKit
set_option linter.unusedSimpArgs false
set_option linter.unusedVariables false
set_option maxRecDepth 8000

end Go.Proofs.YtakmclheffbeaaaDoor
