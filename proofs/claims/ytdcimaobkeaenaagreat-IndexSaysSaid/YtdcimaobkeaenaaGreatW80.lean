
/- Walks: two bindings by their names. -/
import Derived.Test.YtdcimaobkeaenaaGreatZIndexSaysOwn
import Derived.Sort.Grow
namespace Go.Proofs.YtdcimaobkeaenaaGreat
open Go.RowKit
set_option linter.unusedSimpArgs false
set_option linter.unusedVariables false
set_option maxRecDepth 8000

end Go.Proofs.YtdcimaobkeaenaaGreat
