/- Walks: a term under one binder less. -/
import Derived.Test.YtagidfoiemgfcaaGreatDoorL25
import Derived.Test.YtagidfoiemgfcaaGreatDoorLn7
namespace Go.Proofs.YtagidfoiemgfcaaGreatDoor
open Go.RowKit
set_option linter.unusedSimpArgs false
set_option linter.unusedVariables false
set_option maxRecDepth 8000

end Go.Proofs.YtagidfoiemgfcaaGreatDoor
