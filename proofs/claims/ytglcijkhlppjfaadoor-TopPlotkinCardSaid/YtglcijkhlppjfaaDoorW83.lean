
/- Walks: what stands for itself is struck out of a map. -/
import Derived.Test.YtglcijkhlppjfaaDoorZTopPlotkinOwn
namespace Go.Proofs.YtglcijkhlppjfaaDoor
open Go.RowKit
set_option linter.unusedSimpArgs false
set_option linter.unusedVariables false
set_option maxRecDepth 8000

end Go.Proofs.YtglcijkhlppjfaaDoor
