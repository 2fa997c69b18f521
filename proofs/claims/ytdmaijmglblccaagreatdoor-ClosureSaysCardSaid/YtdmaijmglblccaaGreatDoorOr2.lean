/- Which term is above another one by weights: plain. -/
import Derived.Test.YtdmaijmglblccaaGreatDoorOr1
namespace Go.Proofs.YtdmaijmglblccaaGreatDoor
open Go.RowKit
set_option linter.unusedSimpArgs false
set_option linter.unusedVariables false

end Go.Proofs.YtdmaijmglblccaaGreatDoor
