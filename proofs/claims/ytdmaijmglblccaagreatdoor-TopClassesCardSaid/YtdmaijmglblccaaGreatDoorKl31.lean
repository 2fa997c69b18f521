/- Walks: the document's ClosureOf. -/
import Derived.Test.YtdmaijmglblccaaGreatDoorKl30
namespace Go.Proofs.YtdmaijmglblccaaGreatDoor
open Go.RowKit
set_option linter.unusedSimpArgs false
set_option linter.unusedVariables false
set_option maxRecDepth 8000

end Go.Proofs.YtdmaijmglblccaaGreatDoor
