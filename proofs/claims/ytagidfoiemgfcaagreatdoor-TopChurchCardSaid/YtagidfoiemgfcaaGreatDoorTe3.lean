/- Plain: eta is done once it is done, undoes an expansion, and makes no step. -/
import Derived.Test.YtagidfoiemgfcaaGreatDoorTe2
namespace Go.Proofs.YtagidfoiemgfcaaGreatDoor
open Go.RowKit
set_option linter.unusedSimpArgs false
set_option linter.unusedVariables false
set_option maxRecDepth 8000

end Go.Proofs.YtagidfoiemgfcaaGreatDoor
