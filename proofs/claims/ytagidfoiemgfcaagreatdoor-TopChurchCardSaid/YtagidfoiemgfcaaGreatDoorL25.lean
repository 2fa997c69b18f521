
/- Walks: the code's isIdle. -/
import Derived.Test.YtagidfoiemgfcaaGreatDoorL24
namespace Go.Proofs.YtagidfoiemgfcaaGreatDoor
open Go.RowKit
set_option linter.unusedSimpArgs false
set_option linter.unusedVariables false
set_option maxRecDepth 8000

end Go.Proofs.YtagidfoiemgfcaaGreatDoor
