
/- Walks: whether two terms are the same, as the program asks. -/
import Derived.Test.YtakmclheffbeaaaDoorZBGeneralSaysOwn
namespace Go.Proofs.YtakmclheffbeaaaDoor
open Go.RowKit
set_option linter.unusedSimpArgs false
set_option linter.unusedVariables false
set_option maxRecDepth 8000

end Go.Proofs.YtakmclheffbeaaaDoor
