/- One term has another one's symbols wherever that has some: plain. -/
import Derived.Test.YtakmclheffbeaaaDoorZCGeneralMadeOwn
namespace Go.Proofs.YtakmclheffbeaaaDoor
open Go.RowKit
set_option linter.unusedSimpArgs false
set_option linter.unusedVariables false

end Go.Proofs.YtakmclheffbeaaaDoor
