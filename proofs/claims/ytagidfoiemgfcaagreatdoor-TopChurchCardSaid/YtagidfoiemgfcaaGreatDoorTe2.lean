/- Plain: eta is kept by moving what is bound, and done once it is done. -/
import Derived.Test.YtagidfoiemgfcaaGreatDoorTe1
namespace Go.Proofs.YtagidfoiemgfcaaGreatDoor
open Go.RowKit
set_option linter.unusedSimpArgs false
set_option linter.unusedVariables false
set_option maxRecDepth 8000

end Go.Proofs.YtagidfoiemgfcaaGreatDoor
