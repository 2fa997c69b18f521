
/- Walks: Fill. -/
import Derived.Test.YthlgknglalcggacW60
import Derived.Laws.EntriesVeiled
namespace Go.Proofs.Ythlgknglalcggac
open Go.RowKit
set_option linter.unusedSimpArgs false
set_option linter.unusedVariables false
set_option maxRecDepth 8000

end Go.Proofs.Ythlgknglalcggac
