/- Plain: rules; what is wrong with them; what a rule puts in the place of a term; what one step makes of a term. -/
import Derived.Test.YtdmaijmglblccaaGreatDoorZClosureSaysOwn
import Derived.Test.YtdmaijmglblccaaGreatDoorMtM
import Derived.Test.YtdmaijmglblccaaGreatDoorPap
import Derived.Test.YtdmaijmglblccaaGreatDoorOnM
namespace Go.Proofs.YtdmaijmglblccaaGreatDoor
open Go.RowKit
set_option linter.unusedSimpArgs false
set_option linter.unusedVariables false

end Go.Proofs.YtdmaijmglblccaaGreatDoor
