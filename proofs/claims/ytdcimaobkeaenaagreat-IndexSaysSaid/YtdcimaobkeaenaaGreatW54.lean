
/- Walks: whether bindings may be, as the document says. -/
import Derived.Test.YtdcimaobkeaenaaGreatZIndexSaysOwn
namespace Go.Proofs.YtdcimaobkeaenaaGreat
open Go.RowKit
set_option linter.unusedSimpArgs false
set_option linter.unusedVariables false
set_option maxRecDepth 8000

end Go.Proofs.YtdcimaobkeaenaaGreat
