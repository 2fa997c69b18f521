
/- Walks: two answers that are terms. -/
import Derived.Test.YtdcimaobkeaenaaGreatZIndexSaysOwn
namespace Go.Proofs.YtdcimaobkeaenaaGreat
open Go.RowKit
set_option linter.unusedSimpArgs false
set_option linter.unusedVariables false

end Go.Proofs.YtdcimaobkeaenaaGreat
