/- Walks: the terms within one are taken in (ClosureOf's add). -/
import Derived.Test.YtdmaijmglblccaaGreatDoorKl25
import Derived.Test.YtdmaijmglblccaaGreatDoorW21
import Derived.Test.YtdmaijmglblccaaGreatDoorRc3
namespace Go.Proofs.YtdmaijmglblccaaGreatDoor
open Go.RowKit
set_option linter.unusedSimpArgs false
set_option linter.unusedVariables false
set_option maxRecDepth 8000

end Go.Proofs.YtdmaijmglblccaaGreatDoor
