
/- Walks: Both. -/
import Derived.Test.YtgpmlfjhihcfhaaAu10
namespace Go.Proofs.Ytgpmlfjhihcfhaa
open Go.RowKit
set_option linter.unusedSimpArgs false
set_option linter.unusedVariables false
set_option maxRecDepth 8000

end Go.Proofs.Ytgpmlfjhihcfhaa
