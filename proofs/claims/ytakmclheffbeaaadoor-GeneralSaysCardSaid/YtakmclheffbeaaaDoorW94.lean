
/- Walks: whether a part of a term is a case of another one, as the document says. -/
import Derived.Test.YtakmclheffbeaaaDoorW93
namespace Go.Proofs.YtakmclheffbeaaaDoor
open Go.RowKit
set_option linter.unusedSimpArgs false
set_option linter.unusedVariables false
set_option maxRecDepth 8000

end Go.Proofs.YtakmclheffbeaaaDoor
