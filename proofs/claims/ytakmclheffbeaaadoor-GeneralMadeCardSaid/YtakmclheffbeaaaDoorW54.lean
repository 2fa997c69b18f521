
/- Walks: whether bindings may be, as the document says. -/
import Derived.Test.YtakmclheffbeaaaDoorZCGeneralMadeOwn
import Derived.Test.YtakmclheffbeaaaDoorZGeneralMadeOwn
namespace Go.Proofs.YtakmclheffbeaaaDoor
open Go.RowKit
set_option linter.unusedSimpArgs false
set_option linter.unusedVariables false
set_option maxRecDepth 8000

end Go.Proofs.YtakmclheffbeaaaDoor
