
/- Walks: the code's Eta. -/
import Derived.Test.YtagidfoiemgfcaaGreatDoorL26
namespace Go.Proofs.YtagidfoiemgfcaaGreatDoor
open Go.RowKit
set_option linter.unusedSimpArgs false
set_option linter.unusedVariables false
set_option maxRecDepth 8000

end Go.Proofs.YtagidfoiemgfcaaGreatDoor
