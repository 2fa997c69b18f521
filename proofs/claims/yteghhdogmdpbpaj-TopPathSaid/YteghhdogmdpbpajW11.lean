
/- Walks: two answers that are terms. -/
import Derived.Test.YteghhdogmdpbpajZTopPathOwn
namespace Go.Proofs.Yteghhdogmdpbpaj
open Go.RowKit
set_option linter.unusedSimpArgs false
set_option linter.unusedVariables false

end Go.Proofs.Yteghhdogmdpbpaj
