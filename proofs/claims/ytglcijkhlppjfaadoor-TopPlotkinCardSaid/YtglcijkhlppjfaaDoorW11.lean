
/- Walks: two answers that are terms. -/
import Derived.Test.YtglcijkhlppjfaaDoorZTopPlotkinOwn
namespace Go.Proofs.YtglcijkhlppjfaaDoor
open Go.RowKit
set_option linter.unusedSimpArgs false
set_option linter.unusedVariables false

end Go.Proofs.YtglcijkhlppjfaaDoor
