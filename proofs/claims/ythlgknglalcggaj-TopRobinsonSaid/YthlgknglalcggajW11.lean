
/- Walks: two answers that are terms. -/
import Derived.Test.YthlgknglalcggajZBTopRobinsonOwn
namespace Go.Proofs.Ythlgknglalcggaj
open Go.RowKit
set_option linter.unusedSimpArgs false
set_option linter.unusedVariables false

end Go.Proofs.Ythlgknglalcggaj
