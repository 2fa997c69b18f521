
/- Walks: Put, and the law on it. -/
import Derived.Test.YtglcijkhlppjfaaDoorW13
import Derived.Test.YtglcijkhlppjfaaDoorW12
import Derived.Test.YtglcijkhlppjfaaDoorW11
namespace Go.Proofs.YtglcijkhlppjfaaDoor
open Go.RowKit
set_option linter.unusedSimpArgs false
set_option linter.unusedVariables false
set_option maxRecDepth 8000

end Go.Proofs.YtglcijkhlppjfaaDoor
