/- What is wrong with bindings. -/
import Derived.Test.YtakmclheffbeaaaDoorZGeneralSaysOwn
namespace Go.Proofs.YtakmclheffbeaaaDoor
open Go.RowKit
set_option linter.unusedSimpArgs false
set_option linter.unusedVariables false

end Go.Proofs.YtakmclheffbeaaaDoor
