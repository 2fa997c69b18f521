/- Small facts on terms and bindings: plain. -/
import Derived.Test.YtakmclheffbeaaaDoorW64
import Derived.Test.YtakmclheffbeaaaDoorZGeneralMadeOwn
namespace Go.Proofs.YtakmclheffbeaaaDoor
open Go.RowKit
set_option linter.unusedSimpArgs false
set_option linter.unusedVariables false

end Go.Proofs.YtakmclheffbeaaaDoor
