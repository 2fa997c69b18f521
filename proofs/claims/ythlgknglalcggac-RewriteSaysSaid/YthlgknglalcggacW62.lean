
/- Walks: subst's fill. -/
import Derived.Test.YthlgknglalcggacW61
namespace Go.Proofs.Ythlgknglalcggac
open Go.RowKit
set_option linter.unusedSimpArgs false
set_option linter.unusedVariables false
set_option maxRecDepth 8000

end Go.Proofs.Ythlgknglalcggac
