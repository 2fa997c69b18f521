
/- Walks: is a term open (knots.IsOpen); is it accepted (auto.Accepts). -/
import Derived.Test.YtdmaijmglblccaaGreatDoorAv5
import Derived.Test.YtdmaijmglblccaaGreatDoorAu5
import Derived.Test.YtdmaijmglblccaaGreatDoorZClosureMadeOwn
namespace Go.Proofs.YtdmaijmglblccaaGreatDoor
open Go.RowKit
set_option linter.unusedSimpArgs false
set_option linter.unusedVariables false
set_option maxRecDepth 8000

end Go.Proofs.YtdmaijmglblccaaGreatDoor
