
/- Walks: is a term open (knots.IsOpen); is it accepted (auto.Accepts). -/
import Derived.Test.YtdmaijmglblccaaGreatDoorZCClosureMadeOwn
import Derived.Test.YtdmaijmglblccaaGreatDoorZClosureMadeOwn
import Derived.Test.YtdmaijmglblccaaGreatDoorZBClosureMadeOwn
namespace Go.Proofs.YtdmaijmglblccaaGreatDoor
open Go.RowKit
set_option linter.unusedSimpArgs false
set_option linter.unusedVariables false
set_option maxRecDepth 8000

end Go.Proofs.YtdmaijmglblccaaGreatDoor
