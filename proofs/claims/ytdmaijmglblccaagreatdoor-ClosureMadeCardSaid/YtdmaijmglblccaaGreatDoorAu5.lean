
/- Walks: may an automaton be? -/
import Derived.Test.YtdmaijmglblccaaGreatDoorAu4
import Derived.Deep.DeepCutAuto
namespace Go.Proofs.YtdmaijmglblccaaGreatDoor
open Go.RowKit
set_option linter.unusedSimpArgs false
set_option linter.unusedVariables false
set_option maxRecDepth 8000

end Go.Proofs.YtdmaijmglblccaaGreatDoor
