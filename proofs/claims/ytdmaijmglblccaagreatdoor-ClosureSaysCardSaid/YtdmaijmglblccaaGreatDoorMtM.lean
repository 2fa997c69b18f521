/- One term as a case of another one: plain. -/
import Derived.Test.YtdmaijmglblccaaGreatDoorW90
import Derived.Test.YtdmaijmglblccaaGreatDoorZBClosureSaysOwn
import Derived.Test.YtdmaijmglblccaaGreatDoorZClosureSaysOwn
namespace Go.Proofs.YtdmaijmglblccaaGreatDoor
open Go.RowKit
set_option linter.unusedSimpArgs false
set_option linter.unusedVariables false

end Go.Proofs.YtdmaijmglblccaaGreatDoor
