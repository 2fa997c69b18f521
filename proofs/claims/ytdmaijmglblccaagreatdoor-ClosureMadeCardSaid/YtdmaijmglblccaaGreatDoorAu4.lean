
/- Walks: an automaton is asked; its last states. -/
import Derived.Test.YtdmaijmglblccaaGreatDoorAu3
import Derived.Deep.DeepCutAuto
namespace Go.Proofs.YtdmaijmglblccaaGreatDoor
open Go.RowKit
set_option linter.unusedSimpArgs false
set_option linter.unusedVariables false
set_option maxRecDepth 8000

end Go.Proofs.YtdmaijmglblccaaGreatDoor
