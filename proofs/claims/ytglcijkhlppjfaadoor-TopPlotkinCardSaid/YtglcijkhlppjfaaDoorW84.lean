
/- Walks: Then. -/
import Derived.Test.YtglcijkhlppjfaaDoorPu0
import Derived.Test.YtglcijkhlppjfaaDoorW83
import Derived.Test.YtglcijkhlppjfaaDoorW81
import Derived.Test.YtglcijkhlppjfaaDoorW64
namespace Go.Proofs.YtglcijkhlppjfaaDoor
open Go.RowKit
set_option linter.unusedSimpArgs false
set_option linter.unusedVariables false
set_option maxRecDepth 8000

end Go.Proofs.YtglcijkhlppjfaaDoor
