
/- What is filled is what the document says; bindings that may be have each name once. -/
import Derived.Test.YtakmclheffbeaaaDoorW63
import Derived.Test.YtakmclheffbeaaaDoorOnM
namespace Go.Proofs.YtakmclheffbeaaaDoor
open Go.RowKit
set_option linter.unusedSimpArgs false
set_option linter.unusedVariables false

end Go.Proofs.YtakmclheffbeaaaDoor
