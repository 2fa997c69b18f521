/- Walks: are two terms the same, as the document says (SameByOf). -/
import Derived.Test.YtdmaijmglblccaaGreatDoorKl31
import Derived.Test.YtdmaijmglblccaaGreatDoorKl15
import Derived.Test.YtdmaijmglblccaaGreatDoorZBTopClassesOwn
import Derived.Test.YtdmaijmglblccaaGreatDoorZCTopClassesOwn
namespace Go.Proofs.YtdmaijmglblccaaGreatDoor
open Go.RowKit
set_option linter.unusedSimpArgs false
set_option linter.unusedVariables false
set_option maxRecDepth 8000

end Go.Proofs.YtdmaijmglblccaaGreatDoor
