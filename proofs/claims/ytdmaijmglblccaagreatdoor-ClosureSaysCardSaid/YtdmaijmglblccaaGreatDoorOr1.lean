/- Which term is above another one, by paths and by weights: plain. -/
import Derived.Test.YtdmaijmglblccaaGreatDoorW90
import Derived.Test.YtdmaijmglblccaaGreatDoorZBClosureSaysOwn
namespace Go.Proofs.YtdmaijmglblccaaGreatDoor
open Go.RowKit
set_option linter.unusedSimpArgs false
set_option linter.unusedVariables false

end Go.Proofs.YtdmaijmglblccaaGreatDoor
