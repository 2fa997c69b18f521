/- What matching an instance finds, put into the pattern: plain. -/
import Derived.Test.YtakmclheffbeaaaDoorTmP
import Derived.Test.YtakmclheffbeaaaDoorW100
namespace Go.Proofs.YtakmclheffbeaaaDoor
open Go.RowKit
set_option linter.unusedSimpArgs false
set_option linter.unusedVariables false

end Go.Proofs.YtakmclheffbeaaaDoor
