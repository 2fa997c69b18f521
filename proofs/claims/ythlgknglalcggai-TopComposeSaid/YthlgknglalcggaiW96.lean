
/- Walks: Fit, and what asks it. -/
import Derived.Test.YthlgknglalcggaiW96a
import Derived.Test.YthlgknglalcggaiW81
import Derived.Laws.EntriesVeiled
namespace Go.Proofs.Ythlgknglalcggai
open Go.RowKit
set_option linter.unusedSimpArgs false
set_option linter.unusedVariables false
set_option maxRecDepth 8000

end Go.Proofs.Ythlgknglalcggai
