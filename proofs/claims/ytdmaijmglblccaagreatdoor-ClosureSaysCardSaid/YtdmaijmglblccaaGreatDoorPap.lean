/- Places of terms: what stands there, and what is put there. -/
import Derived.Test.YtdmaijmglblccaaGreatDoorZClosureSaysOwn
import Derived.Test.YtdmaijmglblccaaGreatDoorZBClosureSaysOwn
namespace Go.Proofs.YtdmaijmglblccaaGreatDoor
open Go.RowKit
set_option linter.unusedSimpArgs false
set_option linter.unusedVariables false

end Go.Proofs.YtdmaijmglblccaaGreatDoor
