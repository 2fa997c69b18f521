
/- Walks: two answers that are terms. -/
import Derived.Test.YthlgknglalcggaiW10
namespace Go.Proofs.Ythlgknglalcggai
open Go.RowKit
set_option linter.unusedSimpArgs false
set_option linter.unusedVariables false

end Go.Proofs.Ythlgknglalcggai
