
/- Walks: both automata at once. -/
import Derived.Test.YtgpmlfjhihcfhaaAu10a
import Derived.Deep.RegionHeld3
import Derived.Test.YtgpmlfjhihcfhaaL4
namespace Go.Proofs.Ytgpmlfjhihcfhaa
open Go.RowKit
set_option linter.unusedSimpArgs false
set_option linter.unusedVariables false
set_option maxRecDepth 8000

end Go.Proofs.Ytgpmlfjhihcfhaa
