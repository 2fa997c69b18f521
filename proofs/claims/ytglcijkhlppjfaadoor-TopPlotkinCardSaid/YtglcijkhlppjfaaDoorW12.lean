
/- Walks: a term with another one at a place, as the document says. -/
import Derived.Test.YtglcijkhlppjfaaDoorZTopPlotkinOwn
import Derived.Test.YtglcijkhlppjfaaDoorPutM
import Derived.Test.YtglcijkhlppjfaaDoorSlq
namespace Go.Proofs.YtglcijkhlppjfaaDoor
open Go.RowKit
set_option linter.unusedSimpArgs false
set_option linter.unusedVariables false
set_option maxRecDepth 8000

end Go.Proofs.YtglcijkhlppjfaaDoor
