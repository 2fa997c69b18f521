
/- Walks: two bindings by their names. -/
import Derived.Test.YtdmaijmglblccaaGreatDoorZBTopClassesOwn
import Derived.Sort.Grow
namespace Go.Proofs.YtdmaijmglblccaaGreatDoor
open Go.RowKit
set_option linter.unusedSimpArgs false
set_option linter.unusedVariables false
set_option maxRecDepth 8000

end Go.Proofs.YtdmaijmglblccaaGreatDoor
