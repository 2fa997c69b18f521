
/- Walks: two answers that are terms. -/
import Derived.Test.YtneinfjklnffiaiW10
namespace Go.Proofs.Ytneinfjklnffiai
open Go.RowKit
set_option linter.unusedSimpArgs false
set_option linter.unusedVariables false

end Go.Proofs.Ytneinfjklnffiai
