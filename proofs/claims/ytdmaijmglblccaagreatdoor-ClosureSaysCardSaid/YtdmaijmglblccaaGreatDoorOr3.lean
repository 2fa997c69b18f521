/- Where those below a knot stand among all knots: plain. -/
import Derived.Test.YtdmaijmglblccaaGreatDoorOr2
namespace Go.Proofs.YtdmaijmglblccaaGreatDoor
open Go.RowKit
set_option linter.unusedSimpArgs false
set_option linter.unusedVariables false

end Go.Proofs.YtdmaijmglblccaaGreatDoor
