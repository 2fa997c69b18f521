
/- Walks: bindings out of a map, in order. -/
import Derived.Test.YtdmaijmglblccaaGreatDoorW80
import Derived.Test.YtdmaijmglblccaaGreatDoorMapR
namespace Go.Proofs.YtdmaijmglblccaaGreatDoor
open Go.RowKit
set_option linter.unusedSimpArgs false
set_option linter.unusedVariables false
set_option maxRecDepth 8000

end Go.Proofs.YtdmaijmglblccaaGreatDoor
