
/- Walks: one term as a case of another one, as the document says. -/
import Derived.Test.YtakmclheffbeaaaDoorZCGeneralMadeOwn
import Derived.Test.YtakmclheffbeaaaDoorZGeneralMadeOwn
import Derived.Test.YtakmclheffbeaaaDoorW85
namespace Go.Proofs.YtakmclheffbeaaaDoor
open Go.RowKit
set_option linter.unusedSimpArgs false
set_option linter.unusedVariables false
set_option maxRecDepth 8000

end Go.Proofs.YtakmclheffbeaaaDoor
