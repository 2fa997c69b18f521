
/- Walks: Match, Variant, Encompasses. -/
import Derived.Test.YtglcijkhlppjfaaDoorW96
import Derived.Test.YtglcijkhlppjfaaDoorW94
namespace Go.Proofs.YtglcijkhlppjfaaDoor
open Go.RowKit
set_option linter.unusedSimpArgs false
set_option linter.unusedVariables false
set_option maxRecDepth 8000

end Go.Proofs.YtglcijkhlppjfaaDoor
