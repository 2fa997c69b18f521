/- Walks: the document's GroundMay. -/
import Derived.Test.YtdmaijmglblccaaGreatDoorKl14
import Derived.Test.YtdmaijmglblccaaGreatDoorZTopClassesOwn
namespace Go.Proofs.YtdmaijmglblccaaGreatDoor
open Go.RowKit
set_option linter.unusedSimpArgs false
set_option linter.unusedVariables false
set_option maxRecDepth 8000

end Go.Proofs.YtdmaijmglblccaaGreatDoor
