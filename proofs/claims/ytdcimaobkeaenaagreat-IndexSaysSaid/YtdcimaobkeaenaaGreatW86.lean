
/- Walks: bindings that are the same; two answers that are bindings. -/
import Derived.Test.YtdcimaobkeaenaaGreatZIndexSaysOwn
import Derived.Test.YtdcimaobkeaenaaGreatW11
import Derived.Test.YtdcimaobkeaenaaGreatW54
namespace Go.Proofs.YtdcimaobkeaenaaGreat
open Go.RowKit
set_option linter.unusedSimpArgs false
set_option linter.unusedVariables false
set_option maxRecDepth 8000

end Go.Proofs.YtdcimaobkeaenaaGreat
